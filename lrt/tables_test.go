package lrt_test

import (
	"fmt"
	"slices"
	"strings"
	"testing"

	"skein/api"
)

// has asks that a table has just these flows, in whatever order.
func has(t *testing.T, what string, l []api.Flow, table int, want ...string) {
	t.Helper()
	got := of(l, table)
	slices.Sort(got)
	slices.Sort(want)
	if !slices.Equal(got, want) {
		t.Errorf("%s: table %d:\n%s\nnot\n%s", what, table, strings.Join(got, "\n"), strings.Join(want, "\n"))
	}
}

// The ways back from r's ports in net.
const (
	toS = "; datapath = 0xffffff; inport = 0x12; outport = 0x0; ct.state = 0x0; reg0 = 0x0; reg1 = 0x0; reg3 = 0x0; go 0"
	toT = "; datapath = 0x6; inport = 0x16; outport = 0x0; ct.state = 0x0; reg0 = 0x0; reg1 = 0x0; reg3 = 0x0; go 0"
)

// P21.1: the whole of a router, table by table.
func TestTables(t *testing.T) {
	l := compiled(t, net(), netKeys(), "r")
	has(t, "net", l, 20,
		"50: eth.dst == 0x20000000051 && eth.type == 0x800 && vlan.tag == 0x0 && datapath == 0xabcdef && inport == 0xfedc -> go 21",
		"50: eth.dst == 0x20000000052 && eth.type == 0x800 && vlan.tag == 0x0 && datapath == 0xabcdef && inport == 0x14 -> go 21",
		"50: eth.dst == 0x20000000053 && eth.type == 0x800 && vlan.tag == 0x0 && datapath == 0xabcdef && inport == 0x15 -> go 21")
	echo := func(ip, in, back string) string {
		return "100: eth.type == 0x800 && ip4.dst == " + ip + " && ip.proto == 0x1 && icmp.type == 0x8 && icmp.code == 0x0 && datapath == 0xabcdef && inport == " + in + " -> echo" + back
	}
	has(t, "net", l, 21,
		echo("0xa0000fe", "0xfedc", toS), echo("0xc80001fe", "0xfedc", toS), echo("0xa0002fe", "0xfedc", toS),
		echo("0xa0000fe", "0x14", toT), echo("0xc80001fe", "0x14", toT), echo("0xa0002fe", "0x14", toT),
		echo("0xa0000fe", "0x15", ""), echo("0xc80001fe", "0x15", ""), echo("0xa0002fe", "0x15", ""),
		"90: eth.type == 0x800 && ip4.dst == 0xa0000fe && datapath == 0xabcdef -> ",
		"90: eth.type == 0x800 && ip4.dst == 0xc80001fe && datapath == 0xabcdef -> ",
		"90: eth.type == 0x800 && ip4.dst == 0xa0002fe && datapath == 0xabcdef -> ",
		"0: datapath == 0xabcdef -> go 22")
	has(t, "net", l, 22,
		"100: eth.type == 0x800 && ip4.dst == 0x1010101 && datapath == 0xabcdef && inport == 0x14 -> ip4.dst = 0xa000001; go 23",
		"100: eth.type == 0x800 && ip4.dst == 0x1010102 && datapath == 0xabcdef && inport == 0x14 -> ip4.dst = 0xa090909; go 23",
		"100: eth.type == 0x800 && ip4.dst == 0x1010101 && datapath == 0xabcdef && inport == 0x15 -> ip4.dst = 0xa000001; go 23",
		"0: datapath == 0xabcdef -> go 23")
	has(t, "net", l, 23,
		"100: eth.type == 0x800 && ip.ttl == 0x0 / 0xfe && datapath == 0xabcdef && inport == 0xfedc -> error 11 0 from 0x20000000051 0xa0000fe"+toS,
		"100: eth.type == 0x800 && ip.ttl == 0x0 / 0xfe && datapath == 0xabcdef && inport == 0x14 -> error 11 0 from 0x20000000052 0xc80001fe"+toT,
		"100: eth.type == 0x800 && ip.ttl == 0x0 / 0xfe && datapath == 0xabcdef && inport == 0x15 -> error 11 0 from 0x20000000053 0xa0002fe",
		"0: datapath == 0xabcdef -> go 24")
	has(t, "net", l, 24,
		"52: eth.type == 0x800 && ip4.dst == 0xa000080 / 0xffffff80 && datapath == 0xabcdef -> hop; reg1 = ip4.dst; reg3 = 0xfedc; go 25",
		"4: eth.type == 0x800 && ip4.dst == 0x80000000 / 0x80000000 && datapath == 0xabcdef -> hop; reg1 = ip4.dst; reg3 = 0x14; go 25",
		"66: eth.type == 0x800 && ip4.dst == 0xa0002fe && datapath == 0xabcdef -> hop; reg1 = ip4.dst; reg3 = 0x15; go 25",
		"1: eth.type == 0x800 && datapath == 0xabcdef -> hop; reg1 = 0xa0000fd; reg3 = 0xfedc; go 25",
		"51: eth.type == 0x800 && ip4.dst == 0xa000080 / 0xffffff80 && datapath == 0xabcdef -> hop; reg1 = 0xa000001; reg3 = 0x14; go 25",
		"53: eth.type == 0x800 && ip4.dst == 0xa000080 / 0xffffffc0 && datapath == 0xabcdef -> hop; reg1 = 0xa000002; reg3 = 0x15; go 25",
		"65: eth.type == 0x800 && ip4.dst == 0xa000307 && datapath == 0xabcdef -> hop; reg1 = 0xa000003; reg3 = 0x14; go 25",
		"0: datapath == 0xabcdef && inport == 0xfedc -> error 3 0 from 0x20000000051 0xa0000fe"+toS,
		"0: datapath == 0xabcdef && inport == 0x14 -> error 3 0 from 0x20000000052 0xc80001fe"+toT,
		"0: datapath == 0xabcdef && inport == 0x15 -> error 3 0 from 0x20000000053 0xa0002fe")
	has(t, "net", l, 25,
		"50: datapath == 0xabcdef && reg1 == 0xa000001 && reg3 == 0xfedc -> eth.dst = 0x2000000000a; eth.src = 0x20000000051; go 26",
		"50: datapath == 0xabcdef && reg1 == 0xa090909 && reg3 == 0xfedc -> eth.dst = 0x2000000000b; eth.src = 0x20000000051; go 26",
		"50: datapath == 0xabcdef && reg1 == 0xa0000fd && reg3 == 0xfedc -> eth.dst = 0x20000000061; eth.src = 0x20000000051; go 26")
	has(t, "net", l, 26,
		"100: eth.type == 0x800 && ip4.src == 0xa000001 && datapath == 0xabcdef && reg3 == 0x14 -> ip4.src = 0x1010101; go 27",
		"100: eth.type == 0x800 && ip4.src == 0xa090909 && datapath == 0xabcdef && reg3 == 0x14 -> ip4.src = 0x1010102; go 27",
		"100: eth.type == 0x800 && ip4.src == 0xa000001 && datapath == 0xabcdef && reg3 == 0x15 -> ip4.src = 0x1010101; go 27",
		"0: datapath == 0xabcdef -> go 27")
	var want []string
	for c := range 16 {
		for key, back := range map[string]string{"0xfedc": toS, "0x14": toT} {
			want = append(want, fmt.Sprintf("50: datapath == 0xabcdef && reg2 == %#x && reg3 == %s -> reg2 = %#x%s", c, key, c+1, back))
		}
	}
	has(t, "net", l, 27, want...)
}

// P21.1: the router beside it, with one port.
func TestTablesOfOnePort(t *testing.T) {
	l := compiled(t, net(), netKeys(), "q")
	back := "; datapath = 0xffffff; inport = 0x13; outport = 0x0; ct.state = 0x0; reg0 = 0x0; reg1 = 0x0; reg3 = 0x0; go 0"
	has(t, "q", l, 20, "50: eth.dst == 0x20000000061 && eth.type == 0x800 && vlan.tag == 0x0 && datapath == 0xbbbbbb && inport == 0x17 -> go 21")
	has(t, "q", l, 21,
		"100: eth.type == 0x800 && ip4.dst == 0xa0000fd && ip.proto == 0x1 && icmp.type == 0x8 && icmp.code == 0x0 && datapath == 0xbbbbbb && inport == 0x17 -> echo"+back,
		"90: eth.type == 0x800 && ip4.dst == 0xa0000fd && datapath == 0xbbbbbb -> ",
		"0: datapath == 0xbbbbbb -> go 22")
	has(t, "q", l, 22, "0: datapath == 0xbbbbbb -> go 23")
	has(t, "q", l, 23,
		"100: eth.type == 0x800 && ip.ttl == 0x0 / 0xfe && datapath == 0xbbbbbb && inport == 0x17 -> error 11 0 from 0x20000000061 0xa0000fd"+back,
		"0: datapath == 0xbbbbbb -> go 24")
	has(t, "q", l, 24,
		"50: eth.type == 0x800 && ip4.dst == 0xa000000 / 0xffffff00 && datapath == 0xbbbbbb -> hop; reg1 = ip4.dst; reg3 = 0x17; go 25",
		"49: eth.type == 0x800 && ip4.dst == 0xa000300 / 0xffffff00 && datapath == 0xbbbbbb -> hop; reg1 = 0xa0000fe; reg3 = 0x17; go 25",
		"0: datapath == 0xbbbbbb && inport == 0x17 -> error 3 0 from 0x20000000061 0xa0000fd"+back)
	has(t, "q", l, 25,
		"50: datapath == 0xbbbbbb && reg1 == 0xa000001 && reg3 == 0x17 -> eth.dst = 0x2000000000a; eth.src = 0x20000000061; go 26",
		"50: datapath == 0xbbbbbb && reg1 == 0xa090909 && reg3 == 0x17 -> eth.dst = 0x2000000000b; eth.src = 0x20000000061; go 26",
		"50: datapath == 0xbbbbbb && reg1 == 0xa0000fe && reg3 == 0x17 -> eth.dst = 0x20000000051; eth.src = 0x20000000061; go 26")
	has(t, "q", l, 26, "0: datapath == 0xbbbbbb -> go 27")
	if n := len(of(l, 27)); n != 16 {
		t.Errorf("%d flows in table 27", n)
	}
}

// P21.1: how many flows a router has of what: without ports, with one, with two; linked and not; alone in a switch and
// not.
func TestCounts(t *testing.T) {
	r, s := router("r"), sw("s")
	p1, p2 := routerPort("p1", "r", 1, addr(10, 0, 1, 1), 24), routerPort("p2", "r", 1, addr(10, 0, 2, 1), 24)
	for _, x := range []struct {
		what string
		rows []api.Row
		want [8]int
	}{
		{"no ports", []api.Row{r}, [8]int{0, 1, 1, 1, 0, 0, 1, 0}},
		{"one, not linked", []api.Row{r, p1}, [8]int{1, 3, 1, 2, 2, 0, 1, 0}},
		{"one, linked", []api.Row{r, p1, s, link("l1", "s", "p1")}, [8]int{1, 3, 1, 2, 2, 0, 1, 16}},
		{"two, linked", []api.Row{r, p1, p2, s, link("l1", "s", "p1"), sw("t"), link("l2", "t", "p2")}, [8]int{2, 7, 1, 3, 4, 0, 1, 32}},
		{"two, one linked", []api.Row{r, p1, p2, s, link("l2", "s", "p2")}, [8]int{2, 7, 1, 3, 4, 0, 1, 16}},
		{"a neighbour", []api.Row{r, p1, s, link("l1", "s", "p1"), vif("a", "s", 5, 5)}, [8]int{1, 3, 1, 2, 2, 1, 1, 16}},
		{"neighbours elsewhere", []api.Row{r, p1, s, link("l1", "s", "p1"), sw("t"), vif("a", "t", 5, 5)}, [8]int{1, 3, 1, 2, 2, 0, 1, 16}},
		{"a NAT", []api.Row{r, p1, nat("r", "p1", 5, 6)}, [8]int{1, 3, 2, 2, 2, 0, 2, 0}},
		{"a route", []api.Row{r, p1, route("r", 0, 0, 5, "p1")}, [8]int{1, 3, 1, 2, 3, 0, 1, 0}},
		{"another router's", []api.Row{r, router("q"), routerPort("q1", "q", 1, 1, 1), route("q", 0, 0, 5, "q1"), nat("q", "q1", 5, 6), s, link("l1", "s", "q1")}, [8]int{0, 1, 1, 1, 0, 0, 1, 0}},
	} {
		l := compiled(t, x.rows, keysOf(t, x.rows), "r")
		if got := counts(l); got != x.want {
			t.Errorf("%s: %v, not %v", x.what, got, x.want)
		}
	}
	// Both linked to one switch: each is the other one's neighbour.
	p2.Mac = 2
	rows := []api.Row{r, p1, p2, s, link("l1", "s", "p1"), link("l2", "s", "p2")}
	has(t, "two in one switch", compiled(t, rows, keysOf(t, rows), "r"), 25,
		"50: datapath == 0x2 && reg1 == 0xa000101 && reg3 == 0x4 -> eth.dst = 0x1; eth.src = 0x2; go 26",
		"50: datapath == 0x2 && reg1 == 0xa000201 && reg3 == 0x3 -> eth.dst = 0x2; eth.src = 0x1; go 26")
}

// P21.1, P21.3: two ports of one router may have one Ip, under prefixes of unlike length: what is of each Ip is there
// once.
func TestOneIpTwice(t *testing.T) {
	rows := []api.Row{router("r"), routerPort("p1", "r", 1, addr(10, 0, 0, 1), 24), routerPort("p2", "r", 2, addr(10, 0, 0, 1), 16), routerPort("p3", "r", 2, addr(10, 0, 0, 2), 8)}
	l := compiled(t, rows, keysOf(t, rows), "r")
	if got := counts(l); got != [8]int{3, 3*2 + 2 + 1, 1, 4, 6, 0, 1, 0} {
		t.Errorf("%v", got)
	}
	has(t, "one Ip", l, 24,
		"50: eth.type == 0x800 && ip4.dst == 0xa000000 / 0xffffff00 && datapath == 0x1 -> hop; reg1 = ip4.dst; reg3 = 0x1; go 25",
		"34: eth.type == 0x800 && ip4.dst == 0xa000000 / 0xffff0000 && datapath == 0x1 -> hop; reg1 = ip4.dst; reg3 = 0x2; go 25",
		"18: eth.type == 0x800 && ip4.dst == 0xa000000 / 0xff000000 && datapath == 0x1 -> hop; reg1 = ip4.dst; reg3 = 0x3; go 25",
		"0: datapath == 0x1 && inport == 0x1 -> error 3 0 from 0x1 0xa000001",
		"0: datapath == 0x1 && inport == 0x2 -> error 3 0 from 0x2 0xa000001",
		"0: datapath == 0x1 && inport == 0x3 -> error 3 0 from 0x2 0xa000002")
}

// P21.1: prefixes of all lengths, of ports and of routes.
func TestPrefixes(t *testing.T) {
	rows := []api.Row{router("r"), router("q")}
	for plen := range 33 {
		n := fmt.Sprint(plen)
		if plen > 0 {
			rows = append(rows, routerPort("p"+n, "r", 1, 0xffffffff, plen))
		}
		rows = append(rows, routerPort("q"+n, "q", 1, uint32(plen+1), 32), route("q", ^uint32(0)<<(32-plen), plen, uint32(plen+1), "q"+n))
	}
	k := keysOf(t, rows)
	ports, routes := of(compiled(t, rows, k, "r"), 24), of(compiled(t, rows, k, "q"), 24)
	for plen := range 33 {
		mask := fmt.Sprintf("%#x", ^uint32(0)<<(32-plen))
		to := "eth.type == 0x800 && ip4.dst == " + mask + " / " + mask + " && "
		switch plen {
		case 0:
			to = "eth.type == 0x800 && "
		case 32:
			to = "eth.type == 0x800 && ip4.dst == 0xffffffff && "
		}
		isTo := func(priority int) func(s string) bool {
			return func(s string) bool { return strings.HasPrefix(s, fmt.Sprintf("%d: %sdatapath ==", priority, to)) }
		}
		if plen > 0 && !slices.ContainsFunc(ports, isTo(2*plen+2)) {
			t.Errorf("a port of %d:\n%s", plen, strings.Join(ports, "\n"))
		}
		if !slices.ContainsFunc(routes, isTo(2*plen+1)) {
			t.Errorf("a route of %d:\n%s", plen, strings.Join(routes, "\n"))
		}
	}
}
