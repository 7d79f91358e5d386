package lower_test

import (
	"fmt"
	"slices"
	"strings"
	"testing"

	"skein/api"
	"skein/dpath"
	"skein/keys"
	"skein/lower"
	"skein/lrt"
	"skein/lsw"
	"skein/match"
	"skein/nbdb"
)

const (
	all16 = 1<<16 - 1
	all24 = 1<<24 - 1
	all32 = 1<<32 - 1
)

// addr is an address of four numbers.
func addr(a, b, c, d uint32) uint32 {
	return a<<24 | b<<16 | c<<8 | d
}

func sw(name string) api.Row { return api.Row{Kind: api.RowSwitch, Name: name} }

func router(name string) api.Row { return api.Row{Kind: api.RowRouter, Name: name} }

func vif(name, owner string, mac uint64, ip uint32) api.Row {
	return api.Row{Kind: api.RowPort, Name: name, Owner: owner, Mac: mac, Ip: ip}
}

func link(name, owner, peer string) api.Row {
	return api.Row{Kind: api.RowPort, Name: name, Owner: owner, Peer: peer}
}

func routerPort(name, owner string, mac uint64, ip uint32, plen int) api.Row {
	return api.Row{Kind: api.RowRouterPort, Name: name, Owner: owner, Mac: mac, Ip: ip, Num: plen}
}

func route(owner string, ip uint32, plen int, via uint32, port string) api.Row {
	return api.Row{Kind: api.RowRoute, Owner: owner, Ip: ip, Num: plen, Ip2: via, Peer: port}
}

func nat(owner, port string, external, internal uint32) api.Row {
	return api.Row{Kind: api.RowNat, Owner: owner, Peer: port, Ip: external, Ip2: internal}
}

func acl(owner string, to bool, priority int, text string, does int) api.Row {
	return api.Row{Kind: api.RowAcl, Owner: owner, Flag: to, Num: priority, Text: text, Num2: does}
}

func vip(owner string, proto int, ip uint32, port int, ways ...api.Way) api.Row {
	return api.Row{Kind: api.RowVip, Owner: owner, Num: proto, Ip: ip, Num2: port, Ways: ways}
}

func bind(name string, host int) api.Row { return api.Row{Kind: api.RowBind, Name: name, Num: host} }

// net is a network that is well formed: the switches s and t with the routers r, between them, and q, in s; the switch u
// alone; of the VIFs a, b, c, d, e the last one is bound to no host.
func net() []api.Row {
	return []api.Row{
		sw("s"), sw("t"), sw("u"), router("r"), router("q"),
		vif("a", "s", 0x0a, addr(10, 0, 0, 1)), vif("b", "s", 0x0b, addr(10, 0, 0, 2)),
		vif("c", "t", 0x0c, addr(10, 0, 1, 1)), vif("d", "u", 0x0a, addr(10, 0, 0, 1)), vif("e", "t", 0x0e, addr(10, 0, 1, 2)),
		link("l", "s", "r-s"), link("m", "s", "q-s"), link("n", "t", "r-t"),
		routerPort("r-s", "r", 0x51, addr(10, 0, 0, 254), 24), routerPort("r-t", "r", 0x52, addr(10, 0, 1, 254), 24), routerPort("r-x", "r", 0x53, addr(10, 0, 2, 254), 24),
		routerPort("q-s", "q", 0x61, addr(10, 0, 0, 253), 24),
		route("r", 0, 0, addr(10, 0, 0, 253), "r-s"), route("q", addr(10, 0, 1, 0), 24, addr(10, 0, 0, 254), "q-s"),
		nat("r", "r-t", addr(10, 0, 1, 77), addr(10, 0, 0, 1)),
		acl("s", false, 7, "inport == a && tcp", api.AclRelated), acl("t", true, 8, "udp && tp.dst == 9", api.AclDrop),
		vip("s", api.ProtoUdp, addr(10, 0, 0, 99), 53, api.Way{Ip: addr(10, 0, 0, 2), Port: 5353}),
		bind("a", 0), bind("b", api.MaxHosts-1), bind("c", 0), bind("d", 7),
	}
}

// netKeys is keys of net, no two alike, of whatever list.
func netKeys() api.Keys {
	return api.Keys{
		Switches:    []api.Key{{Name: "s", Num: api.MaxVni}, {Name: "t", Num: 6}, {Name: "u", Num: 9}},
		Routers:     []api.Key{{Name: "q", Num: 0xbbbbbb}, {Name: "r", Num: 0xabcdef}},
		Ports:       []api.Key{{Name: "a", Num: 0x11}, {Name: "b", Num: 65535}, {Name: "c", Num: 0x18}, {Name: "d", Num: 1}, {Name: "e", Num: 2}, {Name: "l", Num: 0x12}, {Name: "m", Num: 0x13}, {Name: "n", Num: 0x16}},
		RouterPorts: []api.Key{{Name: "q-s", Num: 0x17}, {Name: "r-s", Num: 0xfedc}, {Name: "r-t", Num: 0x14}, {Name: "r-x", Num: 0x15}},
	}
}

// keysOf is keys for rows.
func keysOf(t *testing.T, rows []api.Row) api.Keys {
	t.Helper()
	k, e := keys.Update(api.Keys{}, rows)
	if e != api.OK {
		t.Fatalf("keys: %d", e)
	}
	return k
}

// program is a host's program of rows that are well formed: dpath.New takes it, in its order, and it is as the model has
// it.
func program(t *testing.T, rows []api.Row, k api.Keys, host int) []api.Flow {
	t.Helper()
	if e := nbdb.Check(rows); e != api.OK {
		t.Fatalf("not well formed: %d", e)
	}
	l := lower.Program(rows, k, host)
	p, e := dpath.New(l)
	if e != api.OK {
		t.Fatalf("New: %d", e)
	}
	if !slices.EqualFunc(l, p.Flows(), dpath.Same) {
		t.Errorf("not in order:\n%s", tell(l))
	}
	for _, f := range l {
		if whole, ok, e := match.Whole(f.Terms); !ok || e != api.OK || !slices.Equal(whole, f.Terms) {
			t.Errorf("not whole: %s", textOf(f))
		}
	}
	if want := modelOf(t, rows, k, host); !slices.EqualFunc(l, want, dpath.Same) {
		t.Fatalf("host %d of %+v:\n%s\nnot\n%s", host, rows, tell(l), tell(want))
	}
	return l
}

// modelOf is a host's program: what the layers below tell of all rows, and each bound VIF's flows, written out.
func modelOf(t *testing.T, rows []api.Row, k api.Keys, host int) []api.Flow {
	t.Helper()
	var all []api.Flow
	for _, r := range rows {
		switch r.Kind {
		case api.RowSwitch:
			all = append(all, lsw.Compile(rows, k, r.Name)...)
		case api.RowRouter:
			all = append(all, lrt.Compile(rows, k, r.Name)...)
		case api.RowBind:
			at := slices.IndexFunc(rows, func(p api.Row) bool { return p.Kind == api.RowPort && p.Name == r.Name })
			s, _ := keys.Find(k.Switches, rows[at].Owner)
			p, _ := keys.Find(k.Ports, r.Name)
			all = append(all, modelEnds(s, p, r.Num, host)...)
		}
	}
	p, e := dpath.New(all)
	if e != api.OK {
		t.Fatalf("the model: %d", e)
	}
	return p.Flows()
}

// modelEnds is the flows of a VIF with the key p, in the switch with the key s, on a host, as another one, or that one,
// has them.
func modelEnds(s, p, on, host int) []api.Flow {
	terms := []api.Term{{Field: api.Datapath, Value: uint64(s), Mask: all24}, {Field: api.OutPort, Value: uint64(p), Mask: all16}}
	if on != host {
		return []api.Flow{{Table: 9, Priority: 50, Terms: terms, Acts: []api.Act{{Kind: api.ActTunnel, Port: on}}}}
	}
	return []api.Flow{
		{Table: 9, Priority: 50, Terms: terms, Acts: []api.Act{
			{Kind: api.ActSet, Field: api.CtState, Mask: 255}, {Kind: api.ActSet, Field: api.Reg0, Mask: all32}, {Kind: api.ActSet, Field: api.Reg1, Mask: all32},
			{Kind: api.ActSet, Field: api.Reg2, Mask: all32}, {Kind: api.ActSet, Field: api.Reg3, Mask: all32}, {Kind: api.ActGo, Table: 10}}},
		{Table: 13, Priority: 50, Terms: terms, Acts: []api.Act{{Kind: api.ActOutput, Port: p}}},
	}
}

// tell is flows as lines.
func tell(l []api.Flow) string {
	var out []string
	for _, f := range l {
		out = append(out, textOf(f))
	}
	return strings.Join(out, "\n")
}

func textOf(f api.Flow) string {
	return fmt.Sprintf("%d %d: %s -> %+v", f.Table, f.Priority, match.Text(f.Terms), f.Acts)
}
