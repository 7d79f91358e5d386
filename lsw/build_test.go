package lsw_test

import (
	"fmt"
	"slices"
	"strings"
	"testing"

	"skein/api"
	"skein/dpath"
	"skein/field"
	"skein/keys"
	"skein/lsw"
	"skein/match"
	"skein/nbdb"
)

// addr is an address of four numbers.
func addr(a, b, c, d uint32) uint32 {
	return a<<24 | b<<16 | c<<8 | d
}

func sw(name string) api.Row { return api.Row{Kind: api.RowSwitch, Name: name} }

func router(name string) api.Row { return api.Row{Kind: api.RowRouter, Name: name} }

func vif(name, owner string, mac uint64, ip uint32) api.Row {
	return api.Row{Kind: api.RowPort, Name: name, Owner: owner, Mac: mac, Ip: ip}
}

func link(name, owner, peer string) api.Row {
	return api.Row{Kind: api.RowPort, Name: name, Owner: owner, Peer: peer}
}

func routerPort(name, owner string, mac uint64, ip uint32, plen int) api.Row {
	return api.Row{Kind: api.RowRouterPort, Name: name, Owner: owner, Mac: mac, Ip: ip, Num: plen}
}

func acl(owner string, to bool, priority int, text string, does int) api.Row {
	return api.Row{Kind: api.RowAcl, Owner: owner, Flag: to, Num: priority, Text: text, Num2: does}
}

func vip(owner string, proto int, ip uint32, port int, ways ...api.Way) api.Row {
	return api.Row{Kind: api.RowVip, Owner: owner, Num: proto, Ip: ip, Num2: port, Ways: ways}
}

func way(ip uint32, port int) api.Way { return api.Way{Ip: ip, Port: port} }

func bind(name string, host int) api.Row { return api.Row{Kind: api.RowBind, Name: name, Num: host} }

// secure and leased are VIFs with Flag, with Flag2.
func secure(r api.Row) api.Row {
	r.Flag = true
	return r
}

func leased(r api.Row) api.Row {
	r.Flag2 = true
	return r
}

// net is a network that is well formed: the switch s with all that makes flows, the switch t, the router r between
// them.
func net() []api.Row {
	return []api.Row{
		sw("s"), sw("t"), router("r"),
		leased(secure(vif("a", "s", 0x02000000000a, addr(10, 0, 0, 1)))),
		vif("b", "s", 0x02000000000b, addr(10, 0, 0, 2)),
		link("l", "s", "r-s"),
		vif("c", "t", 0x02000000000a, addr(10, 0, 1, 1)),
		link("m", "t", "r-t"),
		routerPort("r-s", "r", 0x020000000051, addr(10, 0, 0, 254), 25),
		routerPort("r-t", "r", 0x020000000052, addr(10, 0, 1, 254), 24),
		acl("s", false, 5, "inport == \"a\" && tcp", api.AclDrop),
		acl("s", false, 6, "arp && ip4", api.AclAllow),
		acl("s", false, 0, "1", api.AclAllow),
		acl("s", false, 32767, "udp && tp.dst < 2", api.AclRelated),
		acl("s", true, 5, "outport == {b, \"l\"} && inport == a", api.AclRelated),
		acl("s", true, 7, "arp", api.AclDrop),
		acl("s", true, 9, "eth.type == 0x86dd", api.AclAllow),
		acl("t", false, 5, "0", api.AclRelated),
		vip("s", api.ProtoUdp, addr(10, 0, 0, 99), 53, way(addr(10, 0, 0, 1), 53)),
		vip("s", api.ProtoTcp, addr(10, 0, 0, 99), 80, way(addr(10, 0, 0, 2), 8080), way(addr(10, 0, 0, 1), 8080)),
		vip("s", api.ProtoTcp, addr(10, 0, 0, 98), 0, way(addr(10, 0, 0, 1), 65535), way(addr(10, 0, 0, 1), 0)),
		bind("a", 0), bind("b", 63),
	}
}

// netKeys is keys of net, no two alike, of whatever list.
func netKeys() api.Keys {
	return api.Keys{
		Switches:    []api.Key{{Name: "s", Num: api.MaxVni}, {Name: "t", Num: 6}},
		Routers:     []api.Key{{Name: "r", Num: 0xabcdef}},
		Ports:       []api.Key{{Name: "a", Num: 0x11}, {Name: "b", Num: 65535}, {Name: "c", Num: 0x15}, {Name: "l", Num: 0x12}, {Name: "m", Num: 0x16}},
		RouterPorts: []api.Key{{Name: "r-s", Num: 0xfedc}, {Name: "r-t", Num: 0x13}},
	}
}

// keysOf is keys for rows.
func keysOf(t *testing.T, rows []api.Row) api.Keys {
	t.Helper()
	k, e := keys.Update(api.Keys{}, rows)
	if e != api.OK {
		t.Fatalf("keys: %d", e)
	}
	return k
}

// compiled is the flows of a switch of rows that are well formed: dpath.New takes them, in their order.
func compiled(t *testing.T, rows []api.Row, k api.Keys, name string) []api.Flow {
	t.Helper()
	if e := nbdb.Check(rows); e != api.OK {
		t.Fatalf("not well formed: %d", e)
	}
	l := lsw.Compile(rows, k, name)
	p, e := dpath.New(l)
	if e != api.OK {
		t.Fatalf("New: %d", e)
	}
	if !slices.EqualFunc(l, p.Flows(), dpath.Same) {
		t.Errorf("not in order:\n%s", tell(l))
	}
	for _, f := range l {
		if whole, ok, e := match.Whole(f.Terms); !ok || e != api.OK || !slices.Equal(whole, f.Terms) {
			t.Errorf("not whole: %s", textOf(f))
		}
	}
	return l
}

// of is the flows of a table, as texts.
func of(l []api.Flow, table int) []string {
	var out []string
	for _, f := range l {
		if f.Table == table {
			_, text, _ := strings.Cut(textOf(f), " ")
			out = append(out, text)
		}
	}
	return out
}

// tell is flows as lines.
func tell(l []api.Flow) string {
	var out []string
	for _, f := range l {
		out = append(out, textOf(f))
	}
	return strings.Join(out, "\n")
}

// textOf is a flow as a line: its table, its priority, its terms, its actions.
func textOf(f api.Flow) string {
	return fmt.Sprintf("%d %d: %s -> %s", f.Table, f.Priority, match.Text(f.Terms), textOfActs(f.Acts))
}

func textOfActs(l []api.Act) string {
	var out []string
	for _, a := range l {
		out = append(out, textOfAct(a))
	}
	return strings.Join(out, "; ")
}

func textOfAct(a api.Act) string {
	switch a.Kind {
	case api.ActSet:
		if a.Mask == 1<<field.Bits(a.Field)-1 {
			return fmt.Sprintf("%s = %#x", field.Name(a.Field), a.Value)
		}
		return fmt.Sprintf("%s = %#x / %#x", field.Name(a.Field), a.Value, a.Mask)
	case api.ActMove:
		return fmt.Sprintf("%s = %s", field.Name(a.Field), field.Name(a.From))
	case api.ActGo:
		return fmt.Sprintf("go %d", a.Table)
	case api.ActClone:
		return fmt.Sprintf("clone(%s)", textOfActs(a.Acts))
	case api.ActCtLook:
		return fmt.Sprintf("look %d", a.Port)
	case api.ActCtCommit:
		return fmt.Sprintf("commit %d", a.Port)
	case api.ActPick:
		return fmt.Sprintf("pick %x", a.Ways)
	case api.ActArp:
		return fmt.Sprintf("arp %#x", a.Value)
	case api.ActDhcp:
		return fmt.Sprintf("dhcp %x from %#x", a.Lease, a.Value)
	}
	return fmt.Sprintf("%+v", a)
}
