package lsw_test

import (
	"math/rand"
	"slices"
	"strconv"
	"testing"

	"skein/api"
	"skein/dpath"
	"skein/keys"
	"skein/lsw"
	"skein/nbdb"
)

// wrongRows is what makes net not well formed: a row more, whose ever it is.
func wrongRows() map[string]api.Row {
	return map[string]api.Row{
		"no kind":              {},
		"a wrong row":          {Kind: api.RowSwitch, Name: "no name"},
		"a field too many":     {Kind: api.RowSwitch, Name: "u", Mac: 1},
		"two of one key":       sw("t"),
		"the same once more":   vif("c", "t", 0x02000000000a, addr(10, 0, 1, 1)),
		"nobody's port":        vif("d", "u", 1, 1),
		"a link to nobody":     link("d", "t", "nobody"),
		"a bind of nobody":     bind("nobody", 1),
		"one Mac":              vif("d", "t", 0x02000000000a, addr(10, 0, 1, 2)),
		"one Ip":               vif("d", "t", 0x02000000000c, addr(10, 0, 1, 254)),
		"one prefix":           routerPort("d", "r", 1, addr(10, 0, 1, 7), 24),
		"a VIP's Ip":           vip("t", 6, addr(10, 0, 1, 1), 1, way(addr(10, 0, 1, 1), 1)),
		"a Way that is no one": vip("t", 6, 9, 1, way(9, 1)),
		"a wrong match":        acl("t", false, 9, "reg0 == 1", 1),
		"another one's port":   acl("t", false, 9, "inport == a", 1),
	}
}

// P20.1: rows that are not well formed have no flows and no leases, wherever the fault is.
func TestNotWellFormed(t *testing.T) {
	for what, r := range wrongRows() {
		rows := append(net(), r)
		if nbdb.Check(rows) == api.OK {
			t.Errorf("%s: well formed", what)
		}
		k := keysOf(t, rows)
		for _, name := range []string{"s", "t", "u", ""} {
			if l := lsw.Compile(rows, k, name); len(l) != 0 {
				t.Errorf("%s: %d flows of %q", what, len(l), name)
			}
		}
		for _, name := range []string{"a", "c", "d"} {
			if lease, from, ok := lsw.Lease(rows, name); lease != (api.Lease{}) || from != 0 || ok {
				t.Errorf("%s: %+v, %d, %v", what, lease, from, ok)
			}
		}
		if !lsw.Stateful(rows, "s") {
			t.Errorf("%s: Stateful", what)
		}
	}
	rows := net()
	for i := range api.MaxRows {
		rows = append(rows, sw("s"+strconv.Itoa(i)))
	}
	if l := lsw.Compile(rows, keysOf(t, rows), "s"); len(l) != 0 {
		t.Errorf("too many rows: %d flows", len(l))
	}
	rows = rows[:api.MaxRows]
	if l := lsw.Compile(rows, keysOf(t, rows), "s"); len(l) == 0 {
		t.Errorf("as many rows as may be: no flows")
	}
}

// P20.1: what is no switch of the rows.
func TestNoSuchSwitch(t *testing.T) {
	for _, name := range []string{"", "u", "r", "a", "S", "s ", "r-s"} {
		if l := lsw.Compile(net(), netKeys(), name); len(l) != 0 {
			t.Errorf("%q: %d flows", name, len(l))
		}
		if lsw.Stateful(net(), name) {
			t.Errorf("%q: Stateful", name)
		}
	}
	if l := lsw.Compile(nil, api.Keys{}, "s"); len(l) != 0 {
		t.Errorf("no rows: %d flows", len(l))
	}
	// A switch may have a router's name.
	rows := append(net(), sw("r"))
	k, _ := keys.Update(netKeys(), rows)
	if l := compiled(t, rows, k, "r"); len(l) != 13 || l[0].Terms[1].Value != 1 {
		t.Errorf("a switch with a router's name:\n%s", tell(l))
	}
}

// each goes over the lists of keys.
func each(k *api.Keys) []*[]api.Key {
	return []*[]api.Key{&k.Switches, &k.Routers, &k.Ports, &k.RouterPorts}
}

// P20.1: keys that are not right, or lack a name of rows, be it another switch's; and keys of more than the rows.
func TestWrongKeys(t *testing.T) {
	none := func(what string, k api.Keys) {
		t.Helper()
		for _, name := range []string{"s", "t"} {
			if l := lsw.Compile(net(), k, name); len(l) != 0 {
				t.Errorf("%s: %d flows: %v", what, len(l), k)
			}
		}
	}
	want := compiled(t, net(), netKeys(), "s")
	none("no keys", api.Keys{})
	for i := range 4 {
		own := netKeys()
		for j := range *each(&own)[i] {
			k := netKeys()
			l := each(&k)[i]
			*l = slices.Delete(*l, j, j+1)
			none("one is lacking", k)

			// Under its name alone, in another list, it is lacking still.
			other := each(&k)[(i+2)%4]
			*other = append(*other, api.Key{Name: (*each(&own)[i])[j].Name, Num: 500})
			slices.SortFunc(*other, func(a, b api.Key) int { return map[bool]int{true: -1, false: 1}[a.Name < b.Name] })
			none("in another list", k)

			for _, num := range []int{0, -1, 1 << 24, 1 << 40} {
				k = netKeys()
				(*each(&k)[i])[j].Num = num
				none("a wrong number", k)
			}
		}
		k := netKeys()
		*each(&k)[i] = append(*each(&k)[i], api.Key{Name: "z", Num: 700})
		if l := lsw.Compile(net(), k, "s"); !slices.EqualFunc(l, want, dpath.Same) {
			t.Errorf("a name more: %d flows", len(l))
		}
		*each(&k)[i] = append(*each(&k)[i], api.Key{Name: "y", Num: 701})
		none("names that fall", k)
	}
	k := netKeys()
	k.Ports[0].Num = k.RouterPorts[0].Num
	none("one number twice", k)
	k = netKeys()
	k.Routers[0].Num = k.Switches[0].Num
	none("one number twice", k)
}

// P20.1: leases with one link, several, none.
func TestLease(t *testing.T) {
	a := vif("x", "s", 0x0200000000aa, addr(10, 1, 2, 3))
	rows := []api.Row{sw("s"), sw("t"), router("r"), a, leased(secure(vif("y", "s", 0xbb, addr(10, 1, 2, 4)))), vif("w", "t", 0xcc, 7)}
	r0, r1, r2 := routerPort("r0", "r", 0xd0, addr(10, 9, 9, 9), 32), routerPort("r1", "r", 0xd1, addr(10, 1, 2, 1), 24), routerPort("r2", "r", 0xd2, addr(200, 1, 2, 1), 1)
	own := api.Lease{Mac: 0x0200000000aa, Ip: addr(10, 1, 2, 3), Server: 0xa9fea9fe, Mask: 0xffffff00, Time: 3600}
	by := func(ip, mask uint32) api.Lease {
		return api.Lease{Mac: own.Mac, Ip: own.Ip, Server: ip, Router: ip, Mask: mask, Time: 3600}
	}
	for _, x := range []struct {
		what string
		more []api.Row
		want api.Lease
		from uint64
	}{
		{"no link", nil, own, 0x0a0000000001},
		{"router's ports without links", []api.Row{r0, r1}, own, 0x0a0000000001},
		{"another switch's link", []api.Row{r1, link("l", "t", "r1")}, own, 0x0a0000000001},
		{"one", []api.Row{r1, link("l", "s", "r1")}, by(r1.Ip, 0xffffff00), 0xd1},
		{"all bits", []api.Row{r0, link("l", "s", "r0")}, by(r0.Ip, 0xffffffff), 0xd0},
		{"one bit", []api.Row{r2, link("l", "s", "r2")}, by(r2.Ip, 0x80000000), 0xd2},
		{"several: by the links' names", []api.Row{r0, r1, r2, link("m", "s", "r0"), link("l", "s", "r2"), link("z", "s", "r1")}, by(r2.Ip, 0x80000000), 0xd2},
		{"a link ahead of a VIF", []api.Row{r0, r1, link("-", "s", "r1"), link("Z", "s", "r0")}, by(r1.Ip, 0xffffff00), 0xd1},
	} {
		l := append(slices.Clone(rows), x.more...)
		for range 2 {
			if lease, from, ok := lsw.Lease(l, "x"); lease != x.want || from != x.from || !ok {
				t.Errorf("%s: %+v, %#x, %v", x.what, lease, from, ok)
			}
			slices.Reverse(l)
		}
		for _, name := range []string{"l", "m", "-", "r1", "s", "nobody", "", "X"} {
			if lease, from, ok := lsw.Lease(l, name); lease != (api.Lease{}) || from != 0 || ok {
				t.Errorf("%s: of %q: %+v, %#x, %v", x.what, name, lease, from, ok)
			}
		}
	}
	if _, _, ok := lsw.Lease(nil, "x"); ok {
		t.Errorf("no rows")
	}
}

// P20.1: Stateful of rows of which nothing else is asked.
func TestStateful(t *testing.T) {
	related, balanced := acl("s", true, -1, "no match", api.AclRelated), vip("s", 0, 0, 0)
	for _, x := range []struct {
		what string
		rows []api.Row
		want bool
	}{
		{"nothing", nil, false},
		{"a switch alone", []api.Row{sw("s")}, false},
		{"an ACL", []api.Row{sw("s"), related}, true},
		{"a VIP", []api.Row{balanced, sw("s")}, true},
		{"without the switch", []api.Row{related, balanced}, false},
		{"of a router", []api.Row{router("s"), related, balanced}, false},
		{"of another switch", []api.Row{sw("t"), related, balanced}, false},
		{"of other ACLs", []api.Row{sw("s"), acl("s", false, 1, "1", api.AclAllow), acl("s", false, 2, "1", api.AclDrop), acl("s", false, 3, "1", 4)}, false},
		{"of another one's", []api.Row{sw("s"), acl("t", false, 1, "1", api.AclRelated), vip("t", 6, 1, 1)}, false},
		{"of other kinds", []api.Row{sw("s"), {Kind: api.RowNat, Owner: "s", Num2: 3}, {Kind: api.RowPort, Owner: "s", Num2: 3}, {Kind: api.RowRoute, Owner: "s"}}, false},
	} {
		if got := lsw.Stateful(x.rows, "s"); got != x.want {
			t.Errorf("%s: %v", x.what, got)
		}
	}
}

// P20.2: rows of another switch, and of routers, that change: no flow does, but for keys and Peers.
func TestOthersChange(t *testing.T) {
	want := compiled(t, net(), netKeys(), "s")
	at := func(kind int, name, owner string) func(api.Row) bool {
		return func(r api.Row) bool { return r.Kind == kind && r.Name == name && r.Owner == owner }
	}
	changed := func(change func(r *api.Row), is func(api.Row) bool) []api.Row {
		rows := net()
		change(&rows[slices.IndexFunc(rows, is)])
		return rows
	}
	for what, rows := range map[string][]api.Row{
		"a VIF's addresses":      changed(func(r *api.Row) { r.Mac, r.Ip, r.Flag, r.Flag2 = 1, 1, true, true }, at(api.RowPort, "c", "t")),
		"an ACL's":               changed(func(r *api.Row) { r.Text, r.Num, r.Flag, r.Num2 = "tcp", 7, true, 1 }, at(api.RowAcl, "", "t")),
		"another link's Peer":    changed(func(r *api.Row) { r.Mac, r.Ip, r.Num = 1, 1, 9 }, at(api.RowRouterPort, "r-t", "r")),
		"an ACL, a VIP, a route": append(net(), acl("t", true, 0, "1", 3), vip("t", 6, 9, 9, way(addr(10, 0, 1, 1), 1)), api.Row{Kind: api.RowRoute, Owner: "r", Ip2: 1, Peer: "r-t"}),
		"binds":                  append(slices.DeleteFunc(net(), func(r api.Row) bool { return r.Kind == api.RowBind }), bind("a", 5), bind("c", 6)),
		"a NAT":                  append(net(), api.Row{Kind: api.RowNat, Owner: "r", Peer: "r-s", Ip: 5, Ip2: 6}),
	} {
		if got := compiled(t, rows, netKeys(), "s"); !slices.EqualFunc(got, want, dpath.Same) {
			t.Errorf("%s:\n%s", what, tell(got))
		}
	}
	for what, rows := range map[string][]api.Row{
		"the link's Peer's Mac": changed(func(r *api.Row) { r.Mac = 1 }, at(api.RowRouterPort, "r-s", "r")),
		"its Ip":                changed(func(r *api.Row) { r.Ip = 1 }, at(api.RowRouterPort, "r-s", "r")),
		"its Num":               changed(func(r *api.Row) { r.Num = 24 }, at(api.RowRouterPort, "r-s", "r")),
		"another Peer":          append(changed(func(r *api.Row) { r.Peer = "r-x" }, at(api.RowPort, "l", "s")), routerPort("r-x", "r", 3, 3, 32)),
	} {
		k, _ := keys.Update(netKeys(), rows)
		if got := compiled(t, rows, k, "s"); slices.EqualFunc(got, want, dpath.Same) {
			t.Errorf("%s: nothing changed", what)
		}
	}
}

// P20.3: tables and datapaths of all flows; P20.2: all switches' flows together are a program.
func TestTablesAndDatapath(t *testing.T) {
	chance := rand.New(rand.NewSource(21))
	for range 50 {
		rows := network(chance)
		k := someKeys(t, chance, rows)
		var all []api.Flow
		for _, name := range []string{"s", "t"} {
			dp, _ := keys.Find(k.Switches, name)
			for _, f := range compiled(t, rows, k, name) {
				if f.Table < 0 || f.Table > 12 || !slices.Contains(f.Terms, term(api.Datapath, uint64(dp), all24)) {
					t.Errorf("%s", textOf(f))
				}
				all = append(all, f)
			}
		}
		if _, e := dpath.New(all); e != api.OK {
			t.Errorf("both: %d", e)
		}
	}
}

// P20.1, P20.2: as many ports as a switch may have, all of them with all flags; as many ACLs as there is room for.
func TestGreat(t *testing.T) {
	rows := []api.Row{sw("s"), router("r")}
	for i := range 64 {
		n := strconv.Itoa(i)
		rows = append(rows, leased(secure(vif("v"+n, "s", uint64(i+1), uint32(i+1)))), link("l"+n, "s", "f"+n), routerPort("f"+n, "r", uint64(i+1000), uint32(i+1000), 32))
	}
	l := compiled(t, rows, keysOf(t, rows), "s")
	// Of a VIF 6, 2, 1, 3, of a link 1, 2, 3, 1 flows; the others are those of an empty switch.
	if want := 64*(6+2+1+3) + 64*(1+2+3+1) + 13; len(l) != want {
		t.Errorf("%d flows, not %d", len(l), want)
	}
	for _, f := range l {
		if f.Table == 8 && f.Priority == 70 && len(f.Acts) != 127 {
			t.Errorf("%d copies", len(f.Acts))
		}
	}
	for i := len(rows); i < api.MaxRows; i++ {
		rows = append(rows, acl("s", i%2 == 0, i, "tcp && tp.dst != 80", 1+i%3))
	}
	k := keysOf(t, rows)
	if n := len(compiled(t, rows, k, "s")); n != len(l)+16*(api.MaxRows-194)+4 {
		t.Errorf("%d flows with ACLs", n)
	}
}

// lists is all lists of flows, through to the end of their room.
func lists(l []api.Flow) (terms [][]api.Term, acts [][]api.Act, ways [][]api.Way) {
	var walk func(a []api.Act)
	walk = func(a []api.Act) {
		acts = append(acts, a[:cap(a)])
		for _, x := range a {
			ways = append(ways, x.Ways[:cap(x.Ways)])
			walk(x.Acts)
		}
	}
	for _, f := range l {
		terms = append(terms, f.Terms[:cap(f.Terms)])
		walk(f.Acts)
	}
	return terms, acts, ways
}

// alone asks that lists share no memory: each gets a number of its own everywhere, and has it still when all have.
func alone[T any](t *testing.T, l [][]T, put func(x *T, n int), get func(x T) int) {
	t.Helper()
	for n, x := range l {
		for i := range x {
			put(&x[i], n)
		}
	}
	for n, x := range l {
		for i := range x {
			if get(x[i]) != n {
				t.Errorf("lists %d and %d share memory", n, get(x[i]))
				return
			}
		}
	}
}

// R3, R4: what is handed in stays as it is; what is answered shares nothing with it, nor with itself; and another call
// answers the same.
func TestApart(t *testing.T) {
	rows, k := net(), netKeys()
	kept := net()
	want := tell(lsw.Compile(rows, k, "s"))
	l := lsw.Compile(rows, k, "s")
	terms, acts, ways := lists(l)
	alone(t, terms, func(x *api.Term, n int) { x.Field = n }, func(x api.Term) int { return x.Field })
	alone(t, ways, func(x *api.Way, n int) { x.Port = n }, func(x api.Way) int { return x.Port })
	alone(t, acts, func(x *api.Act, n int) { x.Field = n }, func(x api.Act) int { return x.Field })
	for i := range l[:cap(l)] {
		l[:cap(l)][i] = api.Flow{}
	}
	if !slices.EqualFunc(rows, kept, nbdb.Same) {
		t.Errorf("rows: %+v", rows)
	}
	for i, x := range each(&k) {
		own := netKeys()
		if !slices.Equal(*x, *each(&own)[i]) {
			t.Errorf("keys: %v", k)
		}
	}
	if got := tell(lsw.Compile(rows, k, "s")); got != want {
		t.Errorf("another time:\n%s", got)
	}
}

// R1: rows and keys that nobody would make.
func TestOddArguments(t *testing.T) {
	odd := []api.Row{{}, {Kind: -1}, {Kind: api.RowPort, Name: "a"}, {Kind: api.RowPort, Owner: "s", Peer: "s"}, {Kind: api.RowVip, Owner: "s"}, {Kind: api.RowAcl, Owner: "s", Text: "((("}, {Kind: 99, Name: "s"}}
	for _, r := range odd {
		for _, rows := range [][]api.Row{{r}, {sw("s"), r}, append(net(), r), {r, r}} {
			for _, k := range []api.Keys{{}, netKeys(), {Switches: []api.Key{{}}}, {Ports: []api.Key{{Name: "a", Num: -1}}}} {
				if l := lsw.Compile(rows, k, "s"); len(l) != 0 {
					t.Errorf("%+v: %d flows", rows, len(l))
				}
			}
			if _, _, ok := lsw.Lease(rows, "a"); ok {
				t.Errorf("%+v: a lease", rows)
			}
			lsw.Stateful(rows, "s")
		}
	}
}
