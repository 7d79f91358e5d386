package network_test

import (
	"cmp"
	"slices"
	"strconv"
	"testing"

	"skein/api"
	"skein/keys"
	"skein/nbdb"
	"skein/network"
)

// rows is two switches, of which one has two links, and a router with a port that nothing leads to.
func rows() []api.Row {
	return []api.Row{
		{Kind: api.RowVip, Owner: "s", Num: 17, Ip: 8, Num2: 1, Ways: []api.Way{{Ip: 1, Port: 1}}},
		{Kind: api.RowVip, Owner: "s", Num: 6, Ip: 9, Num2: 2, Ways: []api.Way{{Ip: 1, Port: 1}}},
		{Kind: api.RowVip, Owner: "s", Num: 6, Ip: 9, Num2: 1, Ways: []api.Way{{Ip: 1, Port: 1}}},
		{Kind: api.RowVip, Owner: "s", Num: 6, Ip: 8, Num2: 1, Ways: []api.Way{{Ip: 1, Port: 1}}},
		{Kind: api.RowPort, Name: "z", Owner: "s", Peer: "r2"},
		{Kind: api.RowPort, Name: "a", Owner: "s", Peer: "r1"},
		{Kind: api.RowPort, Name: "b", Owner: "s", Mac: 1, Ip: 1},
		{Kind: api.RowPort, Name: "c", Owner: "t", Mac: 1, Ip: 1},
		{Kind: api.RowRouterPort, Name: "r3", Owner: "r", Mac: 23, Ip: 13, Num: 32},
		{Kind: api.RowRouterPort, Name: "r2", Owner: "q", Mac: 22, Ip: 12, Num: 24},
		{Kind: api.RowRouterPort, Name: "r1", Owner: "r", Mac: 21, Ip: 11, Num: 16},
		{Kind: api.RowRouter, Name: "r"}, {Kind: api.RowRouter, Name: "q"},
		{Kind: api.RowSwitch, Name: "t"}, {Kind: api.RowSwitch, Name: "s"},
		{Kind: api.RowBind, Name: "b", Num: 4},
	}
}

func netKeys() api.Keys {
	return api.Keys{
		Switches:    []api.Key{{Name: "s", Num: 3}, {Name: "t", Num: 1}},
		Routers:     []api.Key{{Name: "q", Num: 7}, {Name: "r", Num: 5}},
		Ports:       []api.Key{{Name: "a", Num: 9}, {Name: "b", Num: 8}, {Name: "c", Num: 2}, {Name: "z", Num: 1}},
		RouterPorts: []api.Key{{Name: "r1", Num: 4}, {Name: "r2", Num: 5}, {Name: "r3", Num: 6}},
	}
}

// What a network finds, by names, by owners, by Peers.
func TestLookUp(t *testing.T) {
	n, ok := network.Of(rows())
	if !ok {
		t.Fatal("not well formed")
	}
	if r, ok := n.Find(api.RowRouterPort, "r2"); !ok || r.Mac != 22 {
		t.Errorf("%+v, %v", r, ok)
	}
	if r, ok := n.Find(api.RowBind, "b"); !ok || r.Num != 4 {
		t.Errorf("%+v, %v", r, ok)
	}
	for _, x := range []struct {
		kind int
		name string
	}{{api.RowRouter, "s"}, {api.RowSwitch, "r"}, {api.RowPort, ""}, {api.RowSwitch, ""}, {api.RowBind, "a"}, {0, "s"}} {
		if r, ok := n.Find(x.kind, x.name); ok || !nbdb.Same(r, api.Row{}) {
			t.Errorf("%+v: %+v, %v", x, r, ok)
		}
	}
	if r, ok := n.Link("r2"); !ok || r.Name != "z" {
		t.Errorf("%+v, %v", r, ok)
	}
	for _, name := range []string{"r3", "", "z"} {
		if r, ok := n.Link(name); ok {
			t.Errorf("%q: %+v", name, r)
		}
	}
}

// The rows' order is not that in which they are handed in.
func TestOwned(t *testing.T) {
	l := rows()
	for range 2 {
		n, _ := network.Of(l)
		for _, x := range []struct {
			kind  int
			owner string
			want  []string
		}{
			{api.RowPort, "s", []string{"a", "b", "z"}}, {api.RowPort, "t", []string{"c"}}, {api.RowPort, "r", nil}, {api.RowRouterPort, "r", []string{"r1", "r3"}},
			{api.RowSwitch, "", []string{"s", "t"}}, {api.RowRouter, "", []string{"q", "r"}}, {api.RowPort, "", nil}, {api.RowAcl, "s", nil},
		} {
			var got []string
			for _, r := range n.Owned(x.kind, x.owner) {
				got = append(got, r.Name)
			}
			if !slices.Equal(got, x.want) {
				t.Errorf("%d, %q: %v", x.kind, x.owner, got)
			}
		}
		want := [][3]int{{6, 1, 8}, {6, 1, 9}, {6, 2, 9}, {17, 1, 8}}
		for i, r := range n.Owned(api.RowVip, "s") {
			if got := [3]int{r.Num, r.Num2, int(r.Ip)}; got != want[i] {
				t.Errorf("VIP %d: %v", i, got)
			}
		}
		slices.Reverse(l)
	}
}

// Ports have the addresses that they are known by, and keys, of a link those of where it leads to.
func TestPorts(t *testing.T) {
	n, ok := network.Numbered(rows(), netKeys())
	if !ok {
		t.Fatal("no network")
	}
	type port struct {
		name                   string
		mac                    uint64
		ip                     uint32
		key, far, router, plen int
	}
	want := []port{{"a", 21, 11, 9, 4, 5, 16}, {"b", 1, 1, 8, 0, 0, 0}, {"z", 22, 12, 1, 5, 7, 24}}
	var got []port
	for _, p := range n.Ports("s") {
		got = append(got, port{p.Name, p.Mac, p.Ip, p.Key, p.Far.Key, p.Far.Router, p.Far.Num})
	}
	if !slices.Equal(got, want) {
		t.Errorf("%+v", got)
	}
	if len(n.Ports("r")) != 0 {
		t.Errorf("of a router: %+v", n.Ports("r"))
	}
	if n.Key(api.RowRouter, "q") != 7 || n.Key(api.RowSwitch, "t") != 1 || n.Key(api.RowRouter, "s") != 0 || n.Key(api.RowPort, "") != 0 {
		t.Errorf("keys")
	}
}

// What is no network.
func TestNone(t *testing.T) {
	if _, ok := network.Of(append(rows(), api.Row{Kind: api.RowSwitch, Name: "s"})); ok {
		t.Errorf("rows that are not well formed")
	}
	if _, ok := network.Numbered(append(rows(), api.Row{}), netKeys()); ok {
		t.Errorf("rows that are not well formed, with keys")
	}
	wrong := netKeys()
	wrong.Ports[0].Num = 4
	if _, ok := network.Numbered(rows(), wrong); ok || keys.Check(wrong) == api.OK {
		t.Errorf("keys that are not right")
	}
	for i := range 4 {
		k := netKeys()
		l := []*[]api.Key{&k.Switches, &k.Routers, &k.Ports, &k.RouterPorts}[i]
		for at := range *l {
			all := *l
			*l = slices.Delete(slices.Clone(all), at, at+1)
			if _, ok := network.Numbered(rows(), k); ok {
				t.Errorf("keys that lack %q", all[at].Name)
			}
			*l = all
		}
	}
	if _, ok := network.Numbered(nil, api.Keys{}); !ok {
		t.Errorf("no rows")
	}
}

// Nothing is checked of what is known, and all is found as ever.
func TestKnown(t *testing.T) {
	n := network.Known(append(rows(), api.Row{Kind: api.RowSwitch, Name: "x"}), netKeys())
	if r, ok := n.Find(api.RowSwitch, "x"); !ok || r.Name != "x" || n.Key(api.RowSwitch, "x") != 0 || n.Key(api.RowSwitch, "s") != 3 {
		t.Errorf("%+v, %v", r, ok)
	}
	if p := n.Ports("s"); len(p) != 3 || p[0].Key != 9 || p[0].Far.Router != 5 {
		t.Errorf("%+v", p)
	}
}

// Parts are well formed, and have each row that they hang on once.
func TestParts(t *testing.T) {
	all := append(rows(),
		api.Row{Kind: api.RowAcl, Owner: "s", Num: 1, Text: "inport == a", Num2: 1}, api.Row{Kind: api.RowAcl, Owner: "t", Num: 1, Text: "1", Num2: 1},
		api.Row{Kind: api.RowRoute, Owner: "r", Ip2: 5, Peer: "r3"}, api.Row{Kind: api.RowNat, Owner: "r", Peer: "r1", Ip: 77, Ip2: 78}, api.Row{Kind: api.RowRoute, Owner: "q", Ip2: 5, Peer: "r2"},
		api.Row{Kind: api.RowPort, Name: "y", Owner: "t", Peer: "r4"}, api.Row{Kind: api.RowRouterPort, Name: "r4", Owner: "r", Mac: 24, Ip: 0x0a000001, Num: 8})
	n, ok := network.Of(all)
	if !ok {
		t.Fatal("not well formed")
	}
	segment := []string{"1 s", "2 a", "2 b", "2 z", "3 q", "3 r", "4 r1", "4 r2"}
	both := append(slices.Clone(segment), "1 t", "2 c", "2 y", "4 r3", "4 r4", "5 r", "7 r")
	for what, x := range map[string]struct {
		got  []api.Row
		want []string
	}{
		"a switch's ports":   {n.PortRows("s"), segment},
		"another one's":      {n.PortRows("t"), []string{"1 t", "2 c", "2 y", "3 r", "4 r4"}},
		"a switch's":         {n.SwitchRows("s"), append(slices.Clone(segment), "6 s", "8 s", "8 s", "8 s", "8 s")},
		"a switch's, no VIP": {n.SwitchRows("t"), []string{"1 t", "2 c", "2 y", "3 r", "4 r4", "6 t"}},
		"a router's":         {n.RouterRows("r"), both},
		"a router's, of one": {n.RouterRows("q"), append(slices.Clone(segment), "5 q")},
	} {
		var got []string
		for _, r := range x.got {
			got = append(got, strconv.Itoa(r.Kind)+" "+cmp.Or(r.Name, r.Owner))
		}
		slices.Sort(got)
		slices.Sort(x.want)
		if !slices.Equal(got, x.want) || nbdb.Check(x.got) != api.OK {
			t.Errorf("%s: %q, not %q: %d", what, got, x.want, nbdb.Check(x.got))
		}
	}
}

// A database of rows has these, in memory of its own.
func TestDatabase(t *testing.T) {
	l := rows()
	d := network.Database(l)
	l[0].Ways[0].Ip = 77
	got := d.Rows()
	if e, at := d.Apply(nil); e != api.OK || at != 0 || len(got) != len(l) {
		t.Errorf("%d at %d, %d rows", e, at, len(got))
	}
	for _, r := range rows() {
		if !slices.ContainsFunc(got, func(x api.Row) bool { return nbdb.Same(x, r) }) {
			t.Errorf("%+v is not there", r)
		}
	}
	if len(network.Database(nil).Rows()) != 0 {
		t.Errorf("of no rows")
	}
}

// A copy of keys is the same, and shares no memory with them, its spare room neither.
func TestCopyOfKeys(t *testing.T) {
	k := netKeys()
	c := network.CopyOfKeys(k)
	lists := func(k api.Keys) [][]api.Key { return [][]api.Key{k.Switches, k.Routers, k.Ports, k.RouterPorts} }
	for i, l := range lists(k) {
		if !slices.Equal(lists(c)[i], l) {
			t.Errorf("list %d: %v, not %v", i, lists(c)[i], l)
		}
		l[0].Num = 99
		if lists(c)[i][0].Num == 99 {
			t.Errorf("list %d is shared", i)
		}
	}
}
