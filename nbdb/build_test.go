package nbdb_test

import (
	"slices"
	"strings"
	"testing"

	"skein/api"
	"skein/nbdb"
)

// addr is an address of four numbers.
func addr(a, b, c, d uint32) uint32 {
	return a<<24 | b<<16 | c<<8 | d
}

func sw(name string) api.Row { return api.Row{Kind: api.RowSwitch, Name: name} }

func router(name string) api.Row { return api.Row{Kind: api.RowRouter, Name: name} }

func vif(name, owner string, mac uint64, ip uint32) api.Row {
	return api.Row{Kind: api.RowPort, Name: name, Owner: owner, Mac: mac, Ip: ip}
}

func link(name, owner, peer string) api.Row {
	return api.Row{Kind: api.RowPort, Name: name, Owner: owner, Peer: peer}
}

func routerPort(name, owner string, mac uint64, ip uint32, plen int) api.Row {
	return api.Row{Kind: api.RowRouterPort, Name: name, Owner: owner, Mac: mac, Ip: ip, Num: plen}
}

func route(owner string, ip uint32, plen int, hop uint32, port string) api.Row {
	return api.Row{Kind: api.RowRoute, Owner: owner, Ip: ip, Num: plen, Ip2: hop, Peer: port}
}

func acl(owner string, to bool, priority int, text string, does int) api.Row {
	return api.Row{Kind: api.RowAcl, Owner: owner, Flag: to, Num: priority, Text: text, Num2: does}
}

func nat(owner, port string, external, internal uint32) api.Row {
	return api.Row{Kind: api.RowNat, Owner: owner, Peer: port, Ip: external, Ip2: internal}
}

func vip(owner string, proto int, ip uint32, port int, ways ...api.Way) api.Row {
	return api.Row{Kind: api.RowVip, Owner: owner, Num: proto, Ip: ip, Num2: port, Ways: ways}
}

func bind(name string, host int) api.Row { return api.Row{Kind: api.RowBind, Name: name, Num: host} }

// net is a network that is well formed, with each Kind of row, in the rows' order. Two switches, one router
// between them, one router apart.
func net() []api.Row {
	a := vif("a", "s", 0x020000000001, addr(10, 0, 0, 1))
	a.Flag, a.Flag2 = true, true
	return []api.Row{
		sw("s"),
		sw("t"),
		a,
		vif("b", "s", 0x020000000002, addr(10, 0, 0, 2)),
		link("s-r", "s", "r-s"),
		vif("c", "t", 0x020000000001, addr(10, 0, 1, 1)),
		link("t-r", "t", "r-t"),
		router("q"),
		router("r"),
		routerPort("q-x", "q", 0x020000000011, addr(10, 0, 0, 254), 24),
		routerPort("r-s", "r", 0x020000000011, addr(10, 0, 0, 254), 24),
		routerPort("r-t", "r", 0x020000000012, addr(10, 0, 1, 254), 24),
		routerPort("r-x", "r", 0x020000000012, addr(10, 0, 2, 254), 24),
		route("r", addr(10, 9, 0, 0), 16, addr(10, 0, 1, 7), "r-t"),
		route("r", 0, 0, addr(10, 0, 2, 1), "r-x"),
		acl("s", false, 5, "inport == \"a\" && tcp", api.AclDrop),
		acl("s", true, 5, "outport == {a, \"s-r\"} && udp", api.AclRelated),
		acl("t", false, 0, "1", api.AclAllow),
		nat("r", "r-t", addr(1, 1, 1, 1), addr(10, 0, 0, 1)),
		nat("r", "r-t", addr(1, 1, 1, 2), addr(10, 0, 0, 2)),
		vip("s", api.ProtoTcp, addr(10, 0, 0, 99), 80, api.Way{Ip: addr(10, 0, 0, 1), Port: 8080}, api.Way{Ip: addr(10, 0, 0, 2), Port: 8080}),
		vip("s", api.ProtoUdp, addr(10, 0, 0, 99), 80, api.Way{Ip: addr(10, 0, 0, 1), Port: 53}),
		bind("a", 0),
		bind("b", 63),
		bind("c", 1),
	}
}

// one is the first row of net that is of a kind.
func one(kind int) api.Row {
	l := net()
	return l[slices.IndexFunc(l, func(r api.Row) bool { return r.Kind == kind })]
}

// with is net with more rows.
func with(more ...api.Row) []api.Row {
	return append(net(), more...)
}

// without is net without the rows of a kind and a name.
func without(kind int, name string) []api.Row {
	return slices.DeleteFunc(net(), func(r api.Row) bool { return r.Kind == kind && r.Name == name })
}

// instead is net with another row in the place of the first one of its kind.
func instead(r api.Row) []api.Row {
	l := net()
	l[slices.IndexFunc(l, func(x api.Row) bool { return x.Kind == r.Kind })] = r
	return l
}

// changed is a row with something changed.
func changed(r api.Row, change func(r *api.Row)) api.Row {
	r.Ways = slices.Clone(r.Ways)
	change(&r)
	return r
}

// comes is changes that bring rows; goes one that takes a row away.
func comes(l ...api.Row) []api.Change {
	var out []api.Change
	for _, r := range l {
		out = append(out, api.Change{Row: r})
	}
	return out
}

func goes(r api.Row) api.Change { return api.Change{Del: true, Row: r} }

// database is a DB with those rows.
func database(t *testing.T, l ...api.Row) *nbdb.DB {
	t.Helper()
	d := nbdb.New()
	if e, at := d.Apply(comes(l...)); e != api.OK || at != 0 {
		t.Fatalf("Apply: %d, %d", e, at)
	}
	return d
}

// checks asks what Check tells of rows, in the order in which they stand and in the other one.
func checks(t *testing.T, what string, l []api.Row, want api.Errno) {
	t.Helper()
	if e := nbdb.Check(l); e != want {
		t.Errorf("%s: %d, not %d", what, e, want)
	}
	l = slices.Clone(l)
	slices.Reverse(l)
	if e := nbdb.Check(l); e != want {
		t.Errorf("%s, the other way round: %d, not %d", what, e, want)
	}
}

// has asks that a DB has just those rows, in that order, whomever it is asked.
func has(t *testing.T, what string, d *nbdb.DB, want []api.Row) {
	t.Helper()
	if l := d.Rows(); !slices.EqualFunc(l, want, nbdb.Same) {
		t.Errorf("%s: %s not %s", what, tell(l), tell(want))
	}
	for _, r := range want {
		if r.Name != "" {
			if got, ok := d.Get(r.Kind, r.Name); !ok || !nbdb.Same(got, r) {
				t.Errorf("%s: Get of %d, %s: %v, %v", what, r.Kind, r.Name, got, ok)
			}
		}
		of := slices.DeleteFunc(slices.Clone(want), func(x api.Row) bool { return x.Kind != r.Kind || x.Owner != r.Owner })
		if l := d.Of(r.Kind, r.Owner); !slices.EqualFunc(l, of, nbdb.Same) {
			t.Errorf("%s: Of %d, %s: %s", what, r.Kind, r.Owner, tell(l))
		}
	}
}

// tell is rows as a text.
func tell(l []api.Row) string {
	var out []string
	for _, r := range l {
		out = append(out, textOf(r))
	}
	return "[" + strings.Join(out, "; ") + "]"
}
