package lower_test

import (
	"cmp"
	"fmt"
	"math/rand"
	"slices"
	"strconv"
	"testing"

	"skein/api"
	"skein/dpath"
	"skein/keys"
	"skein/lower"
	"skein/nbdb"
)

// own is the flows of hosts' own in a program: of VIFs, and not of links, in table 9, and all of table 13.
func own(l []api.Flow) []string {
	var out []string
	for _, f := range l {
		isLink := f.Table == 9 && len(f.Acts) == 8
		if (f.Table == 9 || f.Table == 13) && !isLink {
			out = append(out, textOf(f))
		}
	}
	slices.Sort(out)
	return out
}

// P22.1: what hosts have of their own: with VIFs bound to them, to others, to none; the first host and the last one.
func TestOwnFlows(t *testing.T) {
	for host, size := range map[int]int{0: 4 + 2, api.MaxHosts - 1: 4 + 1, 7: 4 + 1, 8: 4} {
		var want []string
		for _, x := range []struct{ s, p, on int }{{api.MaxVni, 0x11, 0}, {api.MaxVni, 65535, 63}, {6, 0x18, 0}, {9, 1, 7}} {
			for _, f := range modelEnds(x.s, x.p, x.on, host) {
				want = append(want, textOf(f))
			}
		}
		slices.Sort(want)
		if got := own(program(t, net(), netKeys(), host)); !slices.Equal(got, want) || len(got) != size {
			t.Errorf("host %d: %q, not %q", host, got, want)
		}
	}
}

// P22.1: a host's flows of a VIF, written out.
func TestTexts(t *testing.T) {
	rows := []api.Row{sw("s"), vif("a", "s", 1, 1), vif("b", "s", 2, 2), bind("a", 0), bind("b", 1)}
	l := program(t, rows, keysOf(t, rows), 0)
	if len(l) != 25+2+1 {
		t.Errorf("%d flows", len(l))
	}
	want := []string{
		textOf(api.Flow{Table: 9, Priority: 50, Terms: []api.Term{{Field: api.Datapath, Value: 1, Mask: all24}, {Field: api.OutPort, Value: 1, Mask: all16}}, Acts: []api.Act{
			{Kind: api.ActSet, Field: api.CtState, Mask: 255}, {Kind: api.ActSet, Field: api.Reg0, Mask: all32}, {Kind: api.ActSet, Field: api.Reg1, Mask: all32},
			{Kind: api.ActSet, Field: api.Reg2, Mask: all32}, {Kind: api.ActSet, Field: api.Reg3, Mask: all32}, {Kind: api.ActGo, Table: 10}}}),
		textOf(api.Flow{Table: 9, Priority: 50, Terms: []api.Term{{Field: api.Datapath, Value: 1, Mask: all24}, {Field: api.OutPort, Value: 2, Mask: all16}}, Acts: []api.Act{{Kind: api.ActTunnel, Port: 1}}}),
		textOf(api.Flow{Table: 13, Priority: 50, Terms: []api.Term{{Field: api.Datapath, Value: 1, Mask: all24}, {Field: api.OutPort, Value: 1, Mask: all16}}, Acts: []api.Act{{Kind: api.ActOutput, Port: 1}}}),
	}
	slices.Sort(want)
	if got := own(l); !slices.Equal(got, want) {
		t.Errorf("%q", got)
	}
	// Nothing is bound, or nothing is there.
	if l := program(t, rows[:3], keysOf(t, rows), 0); len(l) != 25 {
		t.Errorf("nothing bound: %d flows", len(l))
	}
	if l := program(t, []api.Row{router("r")}, keysOf(t, []api.Row{router("r")}), 0); len(l) != 4 {
		t.Errorf("a router alone: %d flows", len(l))
	}
	if l := program(t, nil, api.Keys{}, 0); len(l) != 0 {
		t.Errorf("no rows: %d flows", len(l))
	}
}

// P22.1: hosts that may not be.
func TestNoHost(t *testing.T) {
	for _, host := range []int{-1, api.MaxHosts, api.MaxHosts + 1, -1 << 63, 1<<63 - 1, 1 << 32} {
		if l := lower.Program(net(), netKeys(), host); len(l) != 0 {
			t.Errorf("host %d: %d flows", host, len(l))
		}
	}
}

// P22.1: rows that are not well formed.
func TestNotWellFormed(t *testing.T) {
	for what, r := range map[string]api.Row{
		"no kind":              {},
		"a wrong row":          sw("no name"),
		"two of one key":       sw("u"),
		"two binds":            bind("a", 1),
		"nobody's port":        vif("f", "v", 1, 1),
		"a bind of nobody":     bind("nobody", 1),
		"a bind of a link":     bind("l", 1),
		"no such host":         bind("e", api.MaxHosts),
		"one Mac":              vif("f", "u", 0x0a, 7),
		"one prefix":           routerPort("q-x", "q", 1, addr(10, 0, 0, 7), 24),
		"a VIP's Ip":           vip("u", 6, addr(10, 0, 0, 1), 1, api.Way{Ip: addr(10, 0, 0, 1)}),
		"a wrong match":        acl("u", false, 9, "reg0 == 1", 1),
		"another one's port":   acl("u", false, 9, "inport == a", 1),
		"a route by another's": route("q", 0, 0, 1, "r-s"),
	} {
		rows := append(net(), r)
		if nbdb.Check(rows) == api.OK {
			t.Errorf("%s: well formed", what)
		}
		if l := lower.Program(rows, keysOf(t, rows), 0); len(l) != 0 {
			t.Errorf("%s: %d flows", what, len(l))
		}
	}
}

// each goes over the lists of keys.
func each(k *api.Keys) []*[]api.Key {
	return []*[]api.Key{&k.Switches, &k.Routers, &k.Ports, &k.RouterPorts}
}

// P22.1: keys that are not right, or lack a name of rows.
func TestWrongKeys(t *testing.T) {
	none := func(what string, k api.Keys) {
		t.Helper()
		if l := lower.Program(net(), k, 0); len(l) != 0 {
			t.Errorf("%s: %d flows: %v", what, len(l), k)
		}
	}
	none("no keys", api.Keys{})
	want := program(t, net(), netKeys(), 0)
	for i := range 4 {
		full := netKeys()
		for j := range *each(&full)[i] {
			k := netKeys()
			l := each(&k)[i]
			*l = slices.Delete(*l, j, j+1)
			none("one is lacking", k)
			other := each(&k)[(i+2)%4]
			*other = append(*other, api.Key{Name: (*each(&full)[i])[j].Name, Num: 500})
			slices.SortFunc(*other, func(a, b api.Key) int { return cmp.Compare(a.Name, b.Name) })
			none("in another list", k)
			k = netKeys()
			(*each(&k)[i])[j].Num = 0
			none("a wrong number", k)
		}
		k := netKeys()
		*each(&k)[i] = append(*each(&k)[i], api.Key{Name: "z", Num: 700})
		if l := lower.Program(net(), k, 0); !slices.EqualFunc(l, want, dpath.Same) {
			t.Errorf("a name more: %d flows", len(l))
		}
		*each(&k)[i] = append(*each(&k)[i], api.Key{Name: "y", Num: 701})
		none("names that fall", k)
	}
	k := netKeys()
	k.Ports[0].Num = k.RouterPorts[0].Num
	none("one number twice", k)
}

// P22.1: Hosts and Where, of rows of which nothing is asked.
func TestHostsAndWhere(t *testing.T) {
	for _, x := range []struct {
		what string
		rows []api.Row
		want []int
	}{
		{"no rows", nil, nil},
		{"no binds", []api.Row{sw("s"), acl("s", false, 5, "1", 1), routerPort("p", "r", 1, 1, 8)}, nil},
		{"net", net(), []int{0, 7, 63}},
		{"one", []api.Row{bind("a", 5)}, []int{5}},
		{"one host twice", []api.Row{bind("a", 5), bind("b", 5)}, []int{5}},
		{"falling", []api.Row{bind("a", 9), sw("s"), bind("b", 5), bind("c", 9), bind("d", 1)}, []int{1, 5, 9}},
		{"no such hosts", []api.Row{bind("", 64), bind("b", -1), bind("b", 1<<63-1)}, []int{-1, 64, 1<<63 - 1}},
	} {
		if got := lower.Hosts(x.rows); !slices.Equal(got, x.want) {
			t.Errorf("%s: %v", x.what, got)
		}
	}
	for name, want := range map[string]int{"a": 0, "b": 63, "c": 0, "d": 7} {
		if host, ok := lower.Where(net(), name); host != want || !ok {
			t.Errorf("%s: %d, %v", name, host, ok)
		}
	}
	for _, name := range []string{"e", "l", "s", "", "A", "nobody"} {
		if host, ok := lower.Where(net(), name); host != 0 || ok {
			t.Errorf("%q: %d, %v", name, host, ok)
		}
	}
	rows := []api.Row{{Kind: api.RowAcl, Name: "a", Num: 3}, bind("b", 9), bind("a", 5), bind("a", 4), bind("", -7)}
	if host, ok := lower.Where(rows, "a"); host != 5 || !ok {
		t.Errorf("the first one: %d, %v", host, ok)
	}
	if host, ok := lower.Where(rows[1:], "b"); host != 9 || !ok {
		t.Errorf("at the beginning: %d, %v", host, ok)
	}
	if host, ok := lower.Where(rows, ""); host != -7 || !ok {
		t.Errorf("no name: %d, %v", host, ok)
	}
}

// P22.3: two hosts' programs differ in tables 9 and 13 alone.
func TestTwoHosts(t *testing.T) {
	for _, x := range []struct{ one, other, added, removed int }{
		{0, 63, 3 + 1, 3 + 2}, {0, 7, 3 + 1, 3 + 2}, {7, 63, 2 + 1, 2 + 1}, {1, 2, 0, 0}, {1, 0, 2 + 2, 2}, {5, 5, 0, 0},
	} {
		added, removed := lower.Diff(program(t, net(), netKeys(), x.one), program(t, net(), netKeys(), x.other))
		if len(added) != x.added || len(removed) != x.removed {
			t.Errorf("%v: %d added, %d removed", x, len(added), len(removed))
		}
		for _, f := range append(added, removed...) {
			if f.Table != 9 && f.Table != 13 {
				t.Errorf("%v: %s", x, textOf(f))
			}
		}
	}
}

// some is rows that are well formed, by chance: those that can't be beside the others are left out.
func some(chance *rand.Rand) []api.Row {
	var rows []api.Row
	try := func(l ...api.Row) {
		if more := append(slices.Clone(rows), l...); nbdb.Check(more) == api.OK {
			rows = more
		}
	}
	one := func(l ...string) string { return l[chance.Intn(len(l))] }
	ip := func() uint32 { return addr(10, 0, uint32(chance.Intn(3)), uint32(1+chance.Intn(20))) }
	for _, name := range []string{"s", "t", "u"} {
		if chance.Intn(6) > 0 {
			try(sw(name))
		}
		if chance.Intn(6) > 0 {
			try(router(one("r", "q", name)))
		}
	}
	for i := range 12 {
		far := fmt.Sprint("f", i)
		try(routerPort(far, one("r", "q", "s"), uint64(1+chance.Intn(99)), ip(), 8+chance.Intn(25)), link(fmt.Sprint("l", i), one("s", "t", "u"), far))
		try(routerPort(fmt.Sprint("g", i), one("r", "q"), uint64(1+chance.Intn(99)), ip(), 8+chance.Intn(25)))
		p := vif(fmt.Sprint("v", i), one("s", "t", "u"), uint64(1+chance.Intn(99)), ip())
		p.Flag, p.Flag2 = chance.Intn(2) == 0, chance.Intn(2) == 0
		try(p)
		try(bind(p.Name, chance.Intn(3)))
	}
	for i := range 6 {
		port := fmt.Sprint(one("f", "g"), chance.Intn(12))
		try(route(one("r", "q"), ip(), 32, ip(), port))
		try(nat(one("r", "q"), port, ip(), ip()))
		try(acl(one("s", "t", "u"), i%2 == 0, i, one("tcp", "inport == v1", "outport == l0 && udp", "inport == {v0, v3}"), 1+chance.Intn(3)))
		try(vip(one("s", "t", "u"), api.ProtoTcp, ip(), i, api.Way{Ip: ip(), Port: i}))
	}
	chance.Shuffle(len(rows), func(i, j int) { rows[i], rows[j] = rows[j], rows[i] })
	return rows
}

// P22.1, P22.3: networks of all kinds, as the model has them; the same from whatever order of rows.
func TestAsModel(t *testing.T) {
	chance := rand.New(rand.NewSource(22))
	for range 60 {
		rows := some(chance)
		k := keysOf(t, rows)
		for host := range 4 {
			l := program(t, rows, k, host)
			other := slices.Clone(rows)
			chance.Shuffle(len(other), func(i, j int) { other[i], other[j] = other[j], other[i] })
			if !slices.EqualFunc(l, lower.Program(other, k, host), dpath.Same) {
				t.Errorf("in another order: %+v", rows)
			}
		}
	}
}

// P22.1, P22.3: as many VIFs as there is room for, on as many hosts as there may be.
func TestGreat(t *testing.T) {
	var rows []api.Row
	for i := 0; len(rows)+3 <= api.MaxRows; i++ {
		s, n := "s"+strconv.Itoa(i/api.MaxPorts), strconv.Itoa(i)
		if i%api.MaxPorts == 0 {
			rows = append(rows, sw(s))
		}
		rows = append(rows, vif("v"+n, s, uint64(i+1), uint32(i+1)), bind("v"+n, i%api.MaxHosts))
	}
	k, e := keys.Update(api.Keys{}, rows)
	if nbdb.Check(rows) != api.OK || e != api.OK || len(lower.Hosts(rows)) != api.MaxHosts {
		t.Fatalf("not well formed")
	}
	vifs := (len(rows) - 4) / 2
	for _, host := range []int{0, api.MaxHosts - 1} {
		l := lower.Program(rows, k, host)
		here := 0
		for _, r := range rows {
			if r.Kind == api.RowBind && r.Num == host {
				here++
			}
		}
		if _, e := dpath.New(l); e != api.OK || len(l) != 4*13+vifs*7+here {
			t.Errorf("host %d: %d, %d flows", host, e, len(l))
		}
	}
}

// R1, R3, R4: what is handed in stays as it is; what is answered shares nothing with it, nor with itself.
func TestApart(t *testing.T) {
	rows, k := net(), netKeys()
	want := tell(lower.Program(rows, k, 0))
	l := lower.Program(rows, k, 0)
	apart(t, l)
	lower.Hosts(rows)
	lower.Where(rows, "a")
	if !slices.EqualFunc(rows, net(), nbdb.Same) {
		t.Errorf("rows: %+v", rows)
	}
	for i, x := range each(&k) {
		full := netKeys()
		if !slices.Equal(*x, *each(&full)[i]) {
			t.Errorf("keys: %v", k)
		}
	}
	if got := tell(lower.Program(rows, k, 0)); got != want {
		t.Errorf("another time:\n%s", got)
	}
}

// apart asks that no two lists of flows, through to the end of their room, share memory. It spoils them.
func apart(t *testing.T, l []api.Flow) {
	t.Helper()
	var terms [][]api.Term
	var acts [][]api.Act
	var ways [][]api.Way
	var walk func(a []api.Act)
	walk = func(a []api.Act) {
		acts = append(acts, a[:cap(a)])
		for _, x := range a {
			ways = append(ways, x.Ways[:cap(x.Ways)])
			walk(x.Acts)
		}
	}
	for _, f := range l {
		terms = append(terms, f.Terms[:cap(f.Terms)])
		walk(f.Acts)
	}
	alone(t, terms, func(x *api.Term, n int) { x.Field = n }, func(x api.Term) int { return x.Field })
	alone(t, ways, func(x *api.Way, n int) { x.Port = n }, func(x api.Way) int { return x.Port })
	alone(t, acts, func(x *api.Act, n int) { x.Field = n }, func(x api.Act) int { return x.Field })
	clear(l[:cap(l)])
}

// alone asks that lists share no memory: each gets a number of its own everywhere, and has it still when all have.
func alone[T any](t *testing.T, l [][]T, put func(x *T, n int), get func(x T) int) {
	t.Helper()
	for n, x := range l {
		for i := range x {
			put(&x[i], n)
		}
	}
	for n, x := range l {
		for _, v := range x {
			if get(v) != n {
				t.Errorf("lists %d and %d share memory", n, get(v))
				return
			}
		}
	}
}

// R1: rows and keys that nobody would make.
func TestOddArguments(t *testing.T) {
	odd := []api.Row{{}, {Kind: -1}, {Kind: api.RowBind}, {Kind: api.RowBind, Name: "a", Num: -1}, {Kind: api.RowPort, Owner: "s", Peer: "r-x"}, {Kind: 99, Name: "s"}}
	for _, r := range odd {
		for _, rows := range [][]api.Row{{r}, {sw("s"), r}, append(net(), r), {r, r}} {
			for _, k := range []api.Keys{{}, netKeys(), {Switches: []api.Key{{}}}, {Ports: []api.Key{{Name: "a", Num: -1}}}} {
				if l := lower.Program(rows, k, 0); len(l) != 0 {
					t.Errorf("%+v: %d flows", rows, len(l))
				}
			}
			lower.Hosts(rows)
			lower.Where(rows, "a")
		}
	}
}
