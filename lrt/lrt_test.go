package lrt_test

import (
	"cmp"
	"slices"
	"strconv"
	"testing"

	"skein/api"
	"skein/dpath"
	"skein/keys"
	"skein/lrt"
	"skein/lsw"
	"skein/nbdb"
)

// wrongRows is what makes net not well formed: a row more, whose ever it is.
func wrongRows() map[string]api.Row {
	return map[string]api.Row{
		"no kind":               {},
		"a wrong row":           {Kind: api.RowRouter, Name: "no name"},
		"a field too many":      {Kind: api.RowRouter, Name: "p", Mac: 1},
		"two of one key":        router("q"),
		"the same once more":    nat("r", "r-t", addr(1, 1, 1, 1), addr(10, 0, 0, 1)),
		"nobody's port":         routerPort("d", "p", 1, 1, 1),
		"a route of nobody":     route("p", 0, 0, 1, "r-s"),
		"a route by another's":  route("q", 0, 0, 1, "r-s"),
		"a route with bits":     route("q", 1, 31, 1, "q-s"),
		"a link to nobody":      link("d", "t", "nobody"),
		"two links to one":      link("d", "t", "q-s"),
		"one Mac":               vif("d", "s", 0x020000000061, 1),
		"one Ip":                vif("d", "s", 1, addr(10, 0, 0, 253)),
		"one prefix":            routerPort("d", "q", 1, addr(10, 0, 0, 7), 24),
		"a NAT of a port's Ip":  nat("q", "q-s", addr(10, 0, 0, 253), 1),
		"two NATs with one Ip2": nat("r", "r-t", 7, addr(10, 0, 0, 1)),
		"a wrong match":         acl("t", "reg0 == 1"),
	}
}

// nothing asks that rows and keys have no flows, no ways, no neighbours.
func nothing(t *testing.T, what string, rows []api.Row, k api.Keys) {
	t.Helper()
	for _, name := range []string{"r", "q", "s", "d", ""} {
		if l := lrt.Compile(rows, k, name); len(l) != 0 {
			t.Errorf("%s: %d flows of %q", what, len(l), name)
		}
		if port, via, ok := lrt.Next(rows, name, addr(10, 0, 0, 1)); port != "" || via != 0 || ok {
			t.Errorf("%s: Next of %q: %q, %d, %v", what, name, port, via, ok)
		}
	}
	for _, port := range []string{"r-s", "q-s", "r-x", "d", ""} {
		if mac, ok := lrt.Resolve(rows, port, addr(10, 0, 0, 1)); mac != 0 || ok {
			t.Errorf("%s: Resolve of %q: %d, %v", what, port, mac, ok)
		}
	}
}

// P21.1, P21.2: rows that are not well formed, wherever the fault is.
func TestNotWellFormed(t *testing.T) {
	for what, r := range wrongRows() {
		rows := append(net(), r)
		if nbdb.Check(rows) == api.OK {
			t.Errorf("%s: well formed", what)
		}
		nothing(t, what, rows, keysOf(t, rows))
	}
	rows := net()
	for i := range api.MaxRows {
		rows = append(rows, router("r"+strconv.Itoa(i)))
	}
	nothing(t, "too many rows", rows, keysOf(t, rows))
	nothing(t, "no rows", nil, api.Keys{})
	nothing(t, "no rows, but keys", nil, netKeys())
	rows = rows[:api.MaxRows]
	if l := lrt.Compile(rows, keysOf(t, rows), "r"); len(l) == 0 {
		t.Errorf("as many rows as may be: no flows")
	}
}

// P21.1, P21.2: what is no router of the rows.
func TestNoSuchRouter(t *testing.T) {
	for _, name := range []string{"", "p", "s", "t", "a", "R", "r ", "r-s", "l"} {
		if l := lrt.Compile(net(), netKeys(), name); len(l) != 0 {
			t.Errorf("%q: %d flows", name, len(l))
		}
		if port, via, ok := lrt.Next(net(), name, addr(10, 0, 0, 1)); port != "" || via != 0 || ok {
			t.Errorf("%q: Next: %q, %d, %v", name, port, via, ok)
		}
	}
	// A router may have a switch's name, and its port a switch's port's.
	rows := append(net(), router("s"), routerPort("l", "s", 9, addr(77, 0, 0, 1), 8), link("x", "s", "l"))
	k, _ := keys.Update(netKeys(), rows)
	if l := compiled(t, rows, k, "s"); counts(l) != [8]int{1, 3, 1, 2, 2, 4, 1, 16} {
		t.Errorf("a router with a switch's name:\n%s", tell(l))
	}
	if mac, ok := lrt.Resolve(rows, "l", addr(10, 0, 0, 254)); mac != 0x020000000051 || !ok {
		t.Errorf("a port with a switch's port's name: %x, %v", mac, ok)
	}
}

// each goes over the lists of keys.
func each(k *api.Keys) []*[]api.Key {
	return []*[]api.Key{&k.Switches, &k.Routers, &k.Ports, &k.RouterPorts}
}

// P21.1: keys that are not right, or lack a name of rows, be it another one's; and keys of more than the rows.
func TestWrongKeys(t *testing.T) {
	none := func(what string, k api.Keys) {
		t.Helper()
		for _, name := range []string{"r", "q"} {
			if l := lrt.Compile(net(), k, name); len(l) != 0 {
				t.Errorf("%s: %d flows: %v", what, len(l), k)
			}
		}
	}
	want := compiled(t, net(), netKeys(), "r")
	none("no keys", api.Keys{})
	for i := range 4 {
		own := netKeys()
		for j := range *each(&own)[i] {
			k := netKeys()
			l := each(&k)[i]
			*l = slices.Delete(*l, j, j+1)
			none("one is lacking", k)

			// Under its name alone, in another list, it is lacking still.
			other := each(&k)[(i+2)%4]
			*other = append(*other, api.Key{Name: (*each(&own)[i])[j].Name, Num: 500})
			slices.SortFunc(*other, func(a, b api.Key) int { return cmp.Compare(a.Name, b.Name) })
			none("in another list", k)

			for _, num := range []int{0, -1, 1 << 24, 1 << 40} {
				k = netKeys()
				(*each(&k)[i])[j].Num = num
				none("a wrong number", k)
			}
		}
		k := netKeys()
		*each(&k)[i] = append(*each(&k)[i], api.Key{Name: "z", Num: 700})
		if l := lrt.Compile(net(), k, "r"); !slices.EqualFunc(l, want, dpath.Same) {
			t.Errorf("a name more: %d flows", len(l))
		}
		*each(&k)[i] = append(*each(&k)[i], api.Key{Name: "y", Num: 701})
		none("names that fall", k)
	}
	k := netKeys()
	k.Ports[0].Num = k.RouterPorts[0].Num
	none("one number twice", k)
	k = netKeys()
	k.Routers[0].Num = k.Switches[0].Num
	none("one number twice", k)
}

// P21.2: by the longest prefix; of one length by a port's.
func TestNext(t *testing.T) {
	for _, x := range []struct {
		what, router string
		ip           uint32
		port         string
		via          uint32
	}{
		{"a port's prefix", "r", addr(10, 0, 0, 200), "r-s", addr(10, 0, 0, 200)},
		{"a port's prefix, its end", "r", addr(10, 0, 0, 255), "r-s", addr(10, 0, 0, 255)},
		{"a port's own address", "r", addr(10, 0, 0, 254), "r-s", addr(10, 0, 0, 254)},
		{"within it a longer one of a route", "r", addr(10, 0, 0, 128), "r-x", addr(10, 0, 0, 2)},
		{"its end", "r", addr(10, 0, 0, 191), "r-x", addr(10, 0, 0, 2)},
		{"behind it", "r", addr(10, 0, 0, 192), "r-s", addr(10, 0, 0, 192)},
		{"ahead of it", "r", addr(10, 0, 0, 127), "r-s", addr(10, 0, 0, 253)},
		{"one bit", "r", addr(128, 0, 0, 0), "r-t", addr(128, 0, 0, 0)},
		{"all ones", "r", 1<<32 - 1, "r-t", 1<<32 - 1},
		{"no bit: the route of all", "r", addr(127, 255, 255, 255), "r-s", addr(10, 0, 0, 253)},
		{"all noughts", "r", 0, "r-s", addr(10, 0, 0, 253)},
		{"all bits of a port", "r", addr(10, 0, 2, 254), "r-x", addr(10, 0, 2, 254)},
		{"one beside them", "r", addr(10, 0, 2, 255), "r-s", addr(10, 0, 0, 253)},
		{"all bits of a route", "r", addr(10, 0, 3, 7), "r-t", addr(10, 0, 0, 3)},
		{"a NAT's address is no way", "r", addr(1, 1, 1, 1), "r-s", addr(10, 0, 0, 253)},
		{"another router's route", "q", addr(10, 0, 3, 7), "q-s", addr(10, 0, 0, 254)},
		{"another router's port", "q", addr(10, 0, 0, 1), "q-s", addr(10, 0, 0, 1)},
	} {
		if port, via, ok := lrt.Next(net(), x.router, x.ip); port != x.port || via != x.via || !ok {
			t.Errorf("%s: %q, %x, %v", x.what, port, via, ok)
		}
	}
	for _, ip := range []uint32{0, 1<<32 - 1, addr(10, 0, 1, 0), addr(10, 0, 4, 0), addr(10, 0, 2, 255)} {
		if port, via, ok := lrt.Next(net(), "q", ip); port != "" || via != 0 || ok {
			t.Errorf("no way: %q, %x, %v", port, via, ok)
		}
	}
	// Of a port's and a route's of one length the port's, whatever their order, names, next hops.
	for _, names := range [][2]string{{"a", "z"}, {"z", "a"}} {
		rows := []api.Row{router("r"), route("r", 0, 1, 9, names[0]), routerPort(names[0], "r", 1, 5, 32), routerPort(names[1], "r", 2, 7, 1)}
		for range 2 {
			if port, via, ok := lrt.Next(rows, "r", 0); port != names[1] || via != 0 || !ok {
				t.Errorf("of one length: %q, %x, %v", port, via, ok)
			}
			slices.Reverse(rows)
		}
	}
	if _, _, ok := lrt.Next([]api.Row{router("r")}, "r", 1); ok {
		t.Errorf("a router without ports")
	}
}

// P21.2: whom a port finds.
func TestResolve(t *testing.T) {
	for _, x := range []struct {
		what, port string
		ip         uint32
		want       uint64
	}{
		{"a VIF", "r-s", addr(10, 0, 0, 1), 0x02000000000a},
		{"a VIF outside of the prefix", "r-s", addr(10, 9, 9, 9), 0x02000000000b},
		{"another router's port", "r-s", addr(10, 0, 0, 253), 0x020000000061},
		{"its own", "r-s", addr(10, 0, 0, 254), 0},
		{"nobody's", "r-s", addr(10, 0, 0, 2), 0},
		{"another port's of its router", "r-s", addr(200, 0, 1, 254), 0},
		{"a NAT's", "r-s", addr(1, 1, 1, 1), 0},
		{"0", "r-s", 0, 0},
		{"from the other side", "q-s", addr(10, 0, 0, 254), 0x020000000051},
		{"from the other side, its own", "q-s", addr(10, 0, 0, 253), 0},
		{"another switch's VIF", "r-t", addr(10, 0, 0, 1), 0},
		{"its own, alone", "r-t", addr(200, 0, 1, 254), 0},
		{"of a port that is not linked", "r-x", addr(10, 0, 0, 1), 0},
		{"of a port that is not linked, its own", "r-x", addr(10, 0, 2, 254), 0},
		{"of a port that is not there", "r-y", addr(10, 0, 0, 1), 0},
		{"of a switch's port", "l", addr(10, 0, 0, 1), 0},
		{"of a VIF", "a", addr(10, 9, 9, 9), 0},
		{"of a router", "r", addr(10, 0, 0, 1), 0},
		{"of no name", "", addr(10, 0, 0, 1), 0},
	} {
		if mac, ok := lrt.Resolve(net(), x.port, x.ip); mac != x.want || ok != (x.want != 0) {
			t.Errorf("%s: %x, %v", x.what, mac, ok)
		}
	}
}

// P21.3: all switches' and routers' flows together are a program; P21.1: in tables 20 to 27, and all with the router's
// datapath (compiled asks for it).
func TestAllTogether(t *testing.T) {
	var all []api.Flow
	for _, name := range []string{"r", "q"} {
		all = append(all, compiled(t, net(), netKeys(), name)...)
	}
	for _, name := range []string{"s", "t"} {
		all = append(all, lsw.Compile(net(), netKeys(), name)...)
	}
	p, e := dpath.New(all)
	if e != api.OK || len(p.Flows()) != len(all) {
		t.Errorf("%d", e)
	}
}

// P21.1, P21.3: as many ports as a switch may have, all of them of one router; routes and NATs as there is room for.
func TestGreat(t *testing.T) {
	rows := []api.Row{sw("s"), router("r")}
	for i := range api.MaxPorts {
		n := strconv.Itoa(i)
		rows = append(rows, link("l"+n, "s", "p"+n), routerPort("p"+n, "r", uint64(i+1), uint32(i+1)<<8, 24))
	}
	const most = api.MaxPorts
	want := [8]int{most, most*most + most + 1, 1, most + 1, 2 * most, most * (most - 1), 1, 16 * most}
	if got := counts(compiled(t, rows, keysOf(t, rows), "r")); got != want {
		t.Errorf("%v, not %v", got, want)
	}
	for i := len(rows); i < api.MaxRows; i++ {
		port := "p" + strconv.Itoa(i%most)
		if i%2 == 0 {
			rows = append(rows, route("r", uint32(i), 32, 1, port))
			want[4]++
		} else {
			rows = append(rows, nat("r", port, uint32(i)<<16, uint32(i)))
			want[2]++
			want[6]++
		}
	}
	if got := counts(compiled(t, rows, keysOf(t, rows), "r")); got != want {
		t.Errorf("%v, not %v", got, want)
	}
}

// alone asks that lists share no memory: each gets a number of its own everywhere, through to the end of its room, and
// has it still when all have.
func alone[T any](t *testing.T, l [][]T, put func(x *T, n int), get func(x T) int) {
	t.Helper()
	for n, x := range l {
		for i := range x[:cap(x)] {
			put(&x[:cap(x)][i], n)
		}
	}
	for n, x := range l {
		for _, v := range x[:cap(x)] {
			if get(v) != n {
				t.Errorf("lists %d and %d share memory", n, get(v))
				return
			}
		}
	}
}

// R3, R4: what is handed in stays as it is; what is answered shares nothing with it, nor with itself; and another call
// answers the same.
func TestApart(t *testing.T) {
	rows, k := net(), netKeys()
	want := tell(lrt.Compile(rows, k, "r"))
	l := lrt.Compile(rows, k, "r")
	var terms [][]api.Term
	var acts [][]api.Act
	for _, f := range l {
		terms, acts = append(terms, f.Terms), append(acts, f.Acts)
	}
	alone(t, terms, func(x *api.Term, n int) { x.Field = n }, func(x api.Term) int { return x.Field })
	alone(t, acts, func(x *api.Act, n int) { x.Field = n }, func(x api.Act) int { return x.Field })
	clear(l[:cap(l)])
	lrt.Next(rows, "r", 1)
	lrt.Resolve(rows, "r-s", 1)
	if !slices.EqualFunc(rows, net(), nbdb.Same) {
		t.Errorf("rows: %+v", rows)
	}
	for i, x := range each(&k) {
		own := netKeys()
		if !slices.Equal(*x, *each(&own)[i]) {
			t.Errorf("keys: %v", k)
		}
	}
	if got := tell(lrt.Compile(rows, k, "r")); got != want {
		t.Errorf("another time:\n%s", got)
	}
}

// R1: rows and keys that nobody would make.
func TestOddArguments(t *testing.T) {
	odd := []api.Row{{}, {Kind: -1}, {Kind: api.RowRouterPort, Name: "r-s"}, {Kind: api.RowRouterPort, Owner: "r", Num: 99}, {Kind: api.RowRoute, Owner: "r", Num: -1},
		{Kind: api.RowNat, Owner: "r"}, {Kind: api.RowPort, Owner: "s", Peer: "r-x"}, {Kind: 99, Name: "r"}}
	for _, r := range odd {
		for _, rows := range [][]api.Row{{r}, {router("r"), r}, append(net(), r), {r, r}} {
			for _, k := range []api.Keys{{}, netKeys(), {Routers: []api.Key{{}}}, {RouterPorts: []api.Key{{Name: "r-s", Num: -1}}}} {
				nothing(t, "odd", rows, k)
			}
		}
	}
}
