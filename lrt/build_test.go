package lrt_test

import (
	"fmt"
	"slices"
	"strings"
	"testing"

	"skein/api"
	"skein/dpath"
	"skein/field"
	"skein/keys"
	"skein/lrt"
	"skein/match"
	"skein/nbdb"
)

// addr is an address of four numbers.
func addr(a, b, c, d uint32) uint32 {
	return a<<24 | b<<16 | c<<8 | d
}

func sw(name string) api.Row { return api.Row{Kind: api.RowSwitch, Name: name} }

func router(name string) api.Row { return api.Row{Kind: api.RowRouter, Name: name} }

func vif(name, owner string, mac uint64, ip uint32) api.Row {
	return api.Row{Kind: api.RowPort, Name: name, Owner: owner, Mac: mac, Ip: ip}
}

func link(name, owner, peer string) api.Row {
	return api.Row{Kind: api.RowPort, Name: name, Owner: owner, Peer: peer}
}

func routerPort(name, owner string, mac uint64, ip uint32, plen int) api.Row {
	return api.Row{Kind: api.RowRouterPort, Name: name, Owner: owner, Mac: mac, Ip: ip, Num: plen}
}

func route(owner string, ip uint32, plen int, via uint32, port string) api.Row {
	return api.Row{Kind: api.RowRoute, Owner: owner, Ip: ip, Num: plen, Ip2: via, Peer: port}
}

func nat(owner, port string, external, internal uint32) api.Row {
	return api.Row{Kind: api.RowNat, Owner: owner, Peer: port, Ip: external, Ip2: internal}
}

func acl(owner, text string) api.Row {
	return api.Row{Kind: api.RowAcl, Owner: owner, Text: text, Num2: api.AclDrop}
}

// net is a network that is well formed: the router r with the linked ports r-s and r-t, and r-x, which is not linked; the
// switch s with two VIFs and the router q beside r; the switch t with r alone.
func net() []api.Row {
	return []api.Row{
		sw("s"), sw("t"), router("r"), router("q"),
		vif("a", "s", 0x02000000000a, addr(10, 0, 0, 1)),
		vif("b", "s", 0x02000000000b, addr(10, 9, 9, 9)),
		link("l", "s", "r-s"), link("m", "s", "q-s"), link("n", "t", "r-t"),
		routerPort("r-s", "r", 0x020000000051, addr(10, 0, 0, 254), 25),
		routerPort("r-t", "r", 0x020000000052, addr(200, 0, 1, 254), 1),
		routerPort("r-x", "r", 0x020000000053, addr(10, 0, 2, 254), 32),
		routerPort("q-s", "q", 0x020000000061, addr(10, 0, 0, 253), 24),
		route("r", 0, 0, addr(10, 0, 0, 253), "r-s"),
		route("r", addr(10, 0, 0, 128), 25, addr(10, 0, 0, 1), "r-t"), // the prefix of r-s
		route("r", addr(10, 0, 0, 128), 26, addr(10, 0, 0, 2), "r-x"),
		route("r", addr(10, 0, 3, 7), 32, addr(10, 0, 0, 3), "r-t"),
		route("q", addr(10, 0, 3, 0), 24, addr(10, 0, 0, 254), "q-s"),
		nat("r", "r-t", addr(1, 1, 1, 1), addr(10, 0, 0, 1)),
		nat("r", "r-t", addr(1, 1, 1, 2), addr(10, 9, 9, 9)),
		nat("r", "r-x", addr(1, 1, 1, 1), addr(10, 0, 0, 1)),
	}
}

// netKeys is keys of net, no two alike, of whatever list.
func netKeys() api.Keys {
	return api.Keys{
		Switches:    []api.Key{{Name: "s", Num: api.MaxVni}, {Name: "t", Num: 6}},
		Routers:     []api.Key{{Name: "q", Num: 0xbbbbbb}, {Name: "r", Num: 0xabcdef}},
		Ports:       []api.Key{{Name: "a", Num: 0x11}, {Name: "b", Num: 65535}, {Name: "l", Num: 0x12}, {Name: "m", Num: 0x13}, {Name: "n", Num: 0x16}},
		RouterPorts: []api.Key{{Name: "q-s", Num: 0x17}, {Name: "r-s", Num: 0xfedc}, {Name: "r-t", Num: 0x14}, {Name: "r-x", Num: 0x15}},
	}
}

// keysOf is keys for rows.
func keysOf(t *testing.T, rows []api.Row) api.Keys {
	t.Helper()
	k, e := keys.Update(api.Keys{}, rows)
	if e != api.OK {
		t.Fatalf("keys: %d", e)
	}
	return k
}

// compiled is the flows of a router of rows that are well formed: dpath.New takes them, in their order.
func compiled(t *testing.T, rows []api.Row, k api.Keys, name string) []api.Flow {
	t.Helper()
	if e := nbdb.Check(rows); e != api.OK {
		t.Fatalf("not well formed: %d", e)
	}
	l := lrt.Compile(rows, k, name)
	p, e := dpath.New(l)
	if e != api.OK {
		t.Fatalf("New: %d", e)
	}
	if !slices.EqualFunc(l, p.Flows(), dpath.Same) {
		t.Errorf("not in order:\n%s", tell(l))
	}
	dp, _ := keys.Find(k.Routers, name)
	for _, f := range l {
		if whole, ok, e := match.Whole(f.Terms); !ok || e != api.OK || !slices.Equal(whole, f.Terms) {
			t.Errorf("not whole: %s", textOf(f))
		}
		if f.Table < 20 || f.Table > 27 || !slices.Contains(f.Terms, term(api.Datapath, uint64(dp), all24)) {
			t.Errorf("another table or datapath: %s", textOf(f))
		}
	}
	return l
}

// counts is how many flows the tables from 20 on have.
func counts(l []api.Flow) [8]int {
	var out [8]int
	for _, f := range l {
		out[f.Table-20]++
	}
	return out
}

// of is the flows of a table, as texts.
func of(l []api.Flow, table int) []string {
	var out []string
	for _, f := range l {
		if f.Table == table {
			_, text, _ := strings.Cut(textOf(f), " ")
			out = append(out, text)
		}
	}
	return out
}

// tell is flows as lines.
func tell(l []api.Flow) string {
	var out []string
	for _, f := range l {
		out = append(out, textOf(f))
	}
	return strings.Join(out, "\n")
}

// textOf is a flow as a line: its table, its priority, its terms, its actions.
func textOf(f api.Flow) string {
	var acts []string
	for _, a := range f.Acts {
		acts = append(acts, textOfAct(a))
	}
	return fmt.Sprintf("%d %d: %s -> %s", f.Table, f.Priority, match.Text(f.Terms), strings.Join(acts, "; "))
}

func textOfAct(a api.Act) string {
	switch a.Kind {
	case api.ActSet:
		if a.Mask == 1<<field.Bits(a.Field)-1 {
			return fmt.Sprintf("%s = %#x", field.Name(a.Field), a.Value)
		}
	case api.ActMove:
		return fmt.Sprintf("%s = %s", field.Name(a.Field), field.Name(a.From))
	case api.ActGo:
		return fmt.Sprintf("go %d", a.Table)
	case api.ActHop:
		return "hop"
	case api.ActEcho:
		return "echo"
	case api.ActError:
		return fmt.Sprintf("error %d %d from %#x %#x", a.Port, a.Table, a.Value, a.From)
	}
	return fmt.Sprintf("%+v", a)
}
