package lsw_test

import (
	"slices"
	"strconv"
	"strings"
	"testing"

	"skein/api"
	"skein/lsw"
)

// has asks that a table has just these flows, in whatever order.
func has(t *testing.T, what string, l []api.Flow, table int, want ...string) {
	t.Helper()
	got := of(l, table)
	slices.Sort(got)
	slices.Sort(want)
	if !slices.Equal(got, want) {
		t.Errorf("%s: table %d:\n%s\nnot\n%s", what, table, strings.Join(got, "\n"), strings.Join(want, "\n"))
	}
}

// P20.1: the whole of a switch, table by table.
func TestTables(t *testing.T) {
	l := compiled(t, net(), netKeys(), "s")
	has(t, "net", l, 0,
		"100: eth.src == 0x10000000000 / 0x10000000000 && datapath == 0xffffff -> ",
		"50: eth.src == 0x2000000000a && eth.type == 0x806 && arp.sha == 0x2000000000a && arp.spa == 0xa000001 && datapath == 0xffffff && inport == 0x11 -> go 1",
		"50: eth.src == 0x2000000000a && eth.type == 0x800 && ip4.src == 0xa000001 && datapath == 0xffffff && inport == 0x11 -> go 1",
		"50: eth.src == 0x2000000000a && eth.type == 0x800 && ip4.src == 0x0 && ip4.dst == 0xffffffff && ip.proto == 0x11 && tp.src == 0x44 && tp.dst == 0x43 && datapath == 0xffffff && inport == 0x11 -> go 1",
		"40: eth.type == 0x800 && datapath == 0xffffff && inport == 0x11 -> ",
		"40: eth.type == 0x806 && datapath == 0xffffff && inport == 0x11 -> ",
		"30: eth.src == 0x2000000000a && datapath == 0xffffff && inport == 0x11 -> go 1",
		"30: datapath == 0xffffff && inport == 0xffff -> go 1",
		"30: datapath == 0xffffff && inport == 0x12 -> go 8")
	has(t, "net", l, 1,
		"10: eth.type == 0x800 && datapath == 0xffffff -> look 0; go 2",
		"0: datapath == 0xffffff -> go 2")
	has(t, "net", l, 2,
		"65535: ct.state == 0x2 / 0x2 && datapath == 0xffffff -> go 3",
		"33767: eth.type == 0x800 && ip.proto == 0x11 && tp.dst == 0x0 / 0xfffe && datapath == 0xffffff -> reg0 = 0x1 / 0x1; go 3",
		"1005: eth.type == 0x800 && ip.proto == 0x6 && datapath == 0xffffff && inport == 0x11 -> ",
		"1000: datapath == 0xffffff -> go 3",
		"0: datapath == 0xffffff -> go 3")
	has(t, "net", l, 3,
		"100: eth.type == 0x800 && ip4.dst == 0xa000063 && ip.proto == 0x6 && tp.dst == 0x50 && ct.state == 0x1 / 0x1 && datapath == 0xffffff -> pick [{a000002 1f90} {a000001 1f90}]; reg0 = 0x3 / 0x3; go 4",
		"100: eth.type == 0x800 && ip4.dst == 0xa000063 && ip.proto == 0x11 && tp.dst == 0x35 && ct.state == 0x1 / 0x1 && datapath == 0xffffff -> pick [{a000001 35}]; reg0 = 0x3 / 0x3; go 4",
		"100: eth.type == 0x800 && ip4.dst == 0xa000062 && ip.proto == 0x6 && tp.dst == 0x0 && ct.state == 0x1 / 0x1 && datapath == 0xffffff -> pick [{a000001 ffff} {a000001 0}]; reg0 = 0x3 / 0x3; go 4",
		"0: datapath == 0xffffff -> go 4")
	has(t, "net", l, 4,
		"100: eth.type == 0x800 && ip4.dst == 0xa000001 && datapath == 0xffffff && reg0 == 0x2 / 0x2 -> eth.dst = 0x2000000000a; go 5",
		"100: eth.type == 0x800 && ip4.dst == 0xa000002 && datapath == 0xffffff && reg0 == 0x2 / 0x2 -> eth.dst = 0x2000000000b; go 5",
		"90: eth.type == 0x800 && ip4.dst == 0xa000001 && ct.state == 0xa / 0xe && datapath == 0xffffff -> eth.dst = 0x2000000000a; go 5",
		"90: eth.type == 0x800 && ip4.dst == 0xa000002 && ct.state == 0xa / 0xe && datapath == 0xffffff -> eth.dst = 0x2000000000b; go 5",
		"0: datapath == 0xffffff -> go 5")
	has(t, "net", l, 5,
		"10: datapath == 0xffffff && reg0 == 0x1 / 0x1 -> commit 0; go 6",
		"0: datapath == 0xffffff -> go 6")
	has(t, "net", l, 6,
		"110: eth.type == 0x806 && arp.op == 0x1 && arp.tpa == 0xa000001 && datapath == 0xffffff && inport == 0x11 -> go 7",
		"110: eth.type == 0x806 && arp.op == 0x1 && arp.tpa == 0xa000002 && datapath == 0xffffff && inport == 0xffff -> go 7",
		"110: eth.type == 0x806 && arp.op == 0x1 && arp.tpa == 0xa0000fe && datapath == 0xffffff && inport == 0x12 -> go 7",
		"100: eth.type == 0x806 && arp.op == 0x1 && arp.tpa == 0xa000001 && datapath == 0xffffff -> arp 0x2000000000a; outport = inport; go 9",
		"100: eth.type == 0x806 && arp.op == 0x1 && arp.tpa == 0xa000002 && datapath == 0xffffff -> arp 0x2000000000b; outport = inport; go 9",
		"100: eth.type == 0x806 && arp.op == 0x1 && arp.tpa == 0xa0000fe && datapath == 0xffffff -> arp 0x20000000051; outport = inport; go 9",
		"100: eth.type == 0x806 && arp.op == 0x1 && arp.tpa == 0xa000062 && datapath == 0xffffff -> arp 0x2000000000a; outport = inport; go 9",
		"100: eth.type == 0x806 && arp.op == 0x1 && arp.tpa == 0xa000063 && datapath == 0xffffff -> arp 0x2000000000b; outport = inport; go 9",
		"0: datapath == 0xffffff -> go 7")
	has(t, "net", l, 7,
		"100: eth.type == 0x800 && ip4.dst == 0xffffffff && ip.proto == 0x11 && tp.src == 0x44 && tp.dst == 0x43 && datapath == 0xffffff && inport == 0x11 -> dhcp {2000000000a a000001 a0000fe ffffff80 a0000fe e10} from 0x20000000051; outport = inport; go 9",
		"0: datapath == 0xffffff -> go 8")
	has(t, "net", l, 8,
		"70: eth.dst == 0x10000000000 / 0x10000000000 && datapath == 0xffffff && inport == 0x11 -> clone(outport = 0xffff; go 9); clone(outport = 0x12; go 9)",
		"70: eth.dst == 0x10000000000 / 0x10000000000 && datapath == 0xffffff && inport == 0xffff -> clone(outport = 0x11; go 9); clone(outport = 0x12; go 9)",
		"70: eth.dst == 0x10000000000 / 0x10000000000 && datapath == 0xffffff && inport == 0x12 -> clone(outport = 0x11; go 9); clone(outport = 0xffff; go 9)",
		"60: eth.dst == 0x2000000000a && datapath == 0xffffff && inport == 0x11 -> ",
		"60: eth.dst == 0x2000000000b && datapath == 0xffffff && inport == 0xffff -> ",
		"60: eth.dst == 0x20000000051 && datapath == 0xffffff && inport == 0x12 -> ",
		"50: eth.dst == 0x2000000000a && datapath == 0xffffff -> outport = 0x11; go 9",
		"50: eth.dst == 0x2000000000b && datapath == 0xffffff -> outport = 0xffff; go 9",
		"50: eth.dst == 0x20000000051 && datapath == 0xffffff -> outport = 0x12; go 9")
	has(t, "net", l, 9,
		"50: datapath == 0xffffff && outport == 0x12 -> datapath = 0xabcdef; inport = 0xfedc; outport = 0x0; ct.state = 0x0; reg0 = 0x0; reg1 = 0x0; reg3 = 0x0; go 20")
	has(t, "net", l, 10,
		"10: eth.type == 0x800 && datapath == 0xffffff -> look 1; go 11",
		"0: datapath == 0xffffff -> go 11")
	has(t, "net", l, 11,
		"65535: ct.state == 0x2 / 0x2 && datapath == 0xffffff -> go 12",
		"1005: datapath == 0xffffff && inport == 0x11 && outport == 0xffff -> reg0 = 0x1 / 0x1; go 12",
		"1005: datapath == 0xffffff && inport == 0x11 && outport == 0x12 -> reg0 = 0x1 / 0x1; go 12",
		"1007: eth.type == 0x806 && datapath == 0xffffff -> ",
		"1009: eth.type == 0x86dd && datapath == 0xffffff -> go 12",
		"0: datapath == 0xffffff -> go 12")
	has(t, "net", l, 12,
		"10: datapath == 0xffffff && reg0 == 0x1 / 0x1 -> commit 1; go 13",
		"0: datapath == 0xffffff -> go 13")
}

// plain is a switch of two VIFs and no more, with some rows more.
func plain(more ...api.Row) []api.Row {
	return append([]api.Row{sw("s"), vif("a", "s", 0xa, 1), vif("b", "s", 0xb, 2)}, more...)
}

// P20.1: a switch of two VIFs, one, none.
func TestPlain(t *testing.T) {
	rows := plain()
	l := compiled(t, rows, keysOf(t, rows), "s")
	if len(l) != 25 {
		t.Errorf("%d flows:\n%s", len(l), tell(l))
	}
	rest := func(what string, l []api.Flow) {
		t.Helper()
		for table, want := range map[int]string{1: "go 2", 2: "go 3", 3: "go 4", 4: "go 5", 10: "go 11", 11: "go 12"} {
			has(t, what, l, table, "0: datapath == 0x1 -> "+want)
		}
		has(t, what, l, 5, "10: datapath == 0x1 && reg0 == 0x1 / 0x1 -> commit 0; go 6", "0: datapath == 0x1 -> go 6")
		has(t, what, l, 7, "0: datapath == 0x1 -> go 8")
		has(t, what, l, 9)
		has(t, what, l, 12, "10: datapath == 0x1 && reg0 == 0x1 / 0x1 -> commit 1; go 13", "0: datapath == 0x1 -> go 13")
	}
	rest("two", l)
	has(t, "two", l, 0, "100: eth.src == 0x10000000000 / 0x10000000000 && datapath == 0x1 -> ", "30: datapath == 0x1 && inport == 0x1 -> go 1", "30: datapath == 0x1 && inport == 0x2 -> go 1")

	rows = rows[:2]
	l = compiled(t, rows, keysOf(t, rows), "s")
	rest("one", l)
	has(t, "one", l, 8, "70: eth.dst == 0x10000000000 / 0x10000000000 && datapath == 0x1 && inport == 0x1 -> ",
		"60: eth.dst == 0xa && datapath == 0x1 && inport == 0x1 -> ", "50: eth.dst == 0xa && datapath == 0x1 -> outport = 0x1; go 9")

	rows = rows[:1]
	l = compiled(t, rows, keysOf(t, rows), "s")
	rest("none", l)
	has(t, "none", l, 0, "100: eth.src == 0x10000000000 / 0x10000000000 && datapath == 0x1 -> ")
	has(t, "none", l, 6, "0: datapath == 0x1 -> go 7")
	has(t, "none", l, 8)
	if len(l) != 13 {
		t.Errorf("%d flows:\n%s", len(l), tell(l))
	}
}

// P20.1: what Flag and Flag2 of a VIF bring, each by itself.
func TestFlags(t *testing.T) {
	a, b := vif("a", "s", 0xa, 1), vif("b", "s", 0xb, 2)
	counts := func(rows ...api.Row) [13]int {
		var out [13]int
		for _, f := range compiled(t, rows, keysOf(t, rows), "s") {
			out[f.Table]++
		}
		return out
	}
	base := counts(sw("s"), a, b)
	for _, x := range []struct {
		a, b         api.Row
		zero, dhcp   int
		zeroB, dhcpB int
	}{
		{a, b, 0, 0, 0, 0}, {secure(a), b, 5, 0, 0, 0}, {leased(a), b, 0, 1, 0, 0}, {leased(secure(a)), b, 5, 1, 0, 0},
		{secure(a), secure(b), 5, 0, 5, 0}, {leased(a), leased(b), 0, 1, 0, 1}, {leased(a), secure(b), 0, 1, 5, 0},
	} {
		want := base
		want[0] += x.zero + x.zeroB
		want[7] += x.dhcp + x.dhcpB
		if got := counts(sw("s"), x.a, x.b); got != want {
			t.Errorf("%v %v: %v, not %v", x.a, x.b, got, want)
		}
	}
}

// P20.1: which rows make a switch stateful, and what follows of it.
func TestStatefulTables(t *testing.T) {
	for _, x := range []struct {
		what string
		rows []api.Row
		want bool
	}{
		{"nothing", nil, false},
		{"an ACL that allows", []api.Row{acl("s", false, 1, "1", api.AclAllow), acl("s", true, 1, "1", api.AclAllow)}, false},
		{"an ACL that drops", []api.Row{acl("s", false, 1, "1", api.AclDrop), acl("s", true, 1, "1", api.AclDrop)}, false},
		{"one that remembers, from a port", []api.Row{acl("s", false, 1, "1", api.AclRelated)}, true},
		{"one that remembers, to a port", []api.Row{acl("s", true, 1, "1", api.AclRelated)}, true},
		{"one that remembers nothing", []api.Row{acl("s", true, 1, "0", api.AclRelated)}, true},
		{"a VIP", []api.Row{vip("s", api.ProtoUdp, 9, 9, way(1, 1))}, true},
		{"another switch's", []api.Row{sw("t"), acl("t", false, 1, "1", api.AclRelated), vif("c", "t", 1, 1), vip("t", api.ProtoUdp, 9, 9, way(1, 1))}, false},
	} {
		rows := plain(x.rows...)
		l := compiled(t, rows, keysOf(t, rows), "s")
		if got := lsw.Stateful(rows, "s"); got != x.want {
			t.Errorf("%s: Stateful: %v", x.what, got)
		}
		looks, known := 0, 0
		for _, f := range l {
			if len(f.Acts) > 0 && f.Acts[0].Kind == api.ActCtLook {
				looks++
			}
			if f.Priority == 65535 {
				known++
			}
		}
		if want := map[bool]int{true: 2}[x.want]; looks != want || known != want {
			t.Errorf("%s: %d that look, %d of known ones", x.what, looks, known)
		}
	}
}

// P20.1: ACLs of each action, in each direction, at the edges of their numbers.
func TestAcls(t *testing.T) {
	for table, isTo := range map[int]bool{2: false, 11: true} {
		next := map[bool]string{false: "go 3", true: "go 12"}[isTo]
		rows := plain(acl("s", isTo, 0, "tcp", api.AclDrop), acl("s", isTo, 1, "udp", api.AclAllow), acl("s", isTo, 32767, "icmp", api.AclRelated),
			acl("s", !isTo, 3, "arp", api.AclDrop), acl("s", isTo, 4, "tp.src == {1, 7}", api.AclDrop))
		l := compiled(t, rows, keysOf(t, rows), "s")
		has(t, "ACLs", l, table,
			"65535: ct.state == 0x2 / 0x2 && datapath == 0x1 -> "+next,
			"33767: eth.type == 0x800 && ip.proto == 0x1 && datapath == 0x1 -> reg0 = 0x1 / 0x1; "+next,
			"1004: eth.type == 0x800 && tp.src == 0x1 && datapath == 0x1 -> ",
			"1004: eth.type == 0x800 && tp.src == 0x7 && datapath == 0x1 -> ",
			"1001: eth.type == 0x800 && ip.proto == 0x11 && datapath == 0x1 -> "+next,
			"1000: eth.type == 0x800 && ip.proto == 0x6 && datapath == 0x1 -> ",
			"0: datapath == 0x1 -> "+next)
	}
}

// P20.1: names of ports in ACLs stand for the keys of these, by quotes or without, of VIFs and links.
func TestAclPorts(t *testing.T) {
	rows := append(net(), acl("s", false, 9, "inport != b && outport == l", api.AclDrop), acl("s", false, 8, "inport == {a, b} && inport == \"l\"", api.AclAllow))
	l := compiled(t, rows, netKeys(), "s")
	var want []string
	for bit := range 16 {
		mask := "0x" + strconv.FormatInt(1<<bit, 16)
		want = append(want, "1009: datapath == 0xffffff && inport == 0x0 / "+mask+" && outport == 0x12 -> ")
	}
	got := slices.DeleteFunc(of(l, 2), func(s string) bool { return !strings.HasPrefix(s, "1009") && !strings.HasPrefix(s, "1008") })
	slices.Sort(got)
	slices.Sort(want)
	if !slices.Equal(got, want) {
		t.Errorf("%s", strings.Join(got, "\n"))
	}
}

// P20.1: an ACL that is well formed where each key is 1, but with its own keys is too wide, names a number that has
// no room, or wants what can't be: it has no matches, and all else is as without it.
func TestAclWithoutMatches(t *testing.T) {
	rows := []api.Row{sw("s"), router("r")}
	var here, there []string
	for i := range 24 {
		name := "p" + strconv.Itoa(100+i)
		rows = append(rows, vif(name, "s", uint64(i+1), uint32(i+1)))
		if i < 12 {
			here = append(here, name)
		} else {
			there = append(there, name)
		}
	}
	k := keysOf(t, rows)
	k.Ports[23].Num = 256
	without := compiled(t, rows, k, "s")
	for what, text := range map[string]string{
		"too wide":      "inport == {" + strings.Join(here, ", ") + "} && outport == {" + strings.Join(there, ", ") + "}",
		"no room":       "ip.ttl == p123",
		"can't be":      "inport == p100 && inport == p101",
		"nothing":       "0",
		"no such frame": "tcp && udp",
	} {
		if with := compiled(t, append(slices.Clone(rows), acl("s", false, 5, text, api.AclDrop)), k, "s"); tell(with) != tell(without) {
			t.Errorf("%s:\n%s", what, strings.Join(of(with, 2), "\n"))
		}
	}
	// What just has room, and is just not too wide.
	k.Ports[23].Num = 255
	for text, want := range map[string]int{"ip.ttl == p123": 1, "inport == {" + strings.Join(here, ", ") + "} && outport == {" + strings.Join(there[:10], ", ") + "}": 120} {
		if l := compiled(t, append(slices.Clone(rows), acl("s", false, 5, text, api.AclDrop)), k, "s"); len(of(l, 2)) != want+1 {
			t.Errorf("%s: %d", text, len(of(l, 2)))
		}
	}
}

// P20.1: VIPs with one Ip: the first of them, in the rows' order, says whose Mac is answered.
func TestVips(t *testing.T) {
	arp := func(rows ...api.Row) []string {
		rows = plain(rows...)
		l := of(compiled(t, rows, keysOf(t, rows), "s"), 6)
		return slices.DeleteFunc(l, func(s string) bool { return !strings.Contains(s, "arp.tpa == 0x9 ") })
	}
	answer := func(mac string) []string {
		return []string{"100: eth.type == 0x806 && arp.op == 0x1 && arp.tpa == 0x9 && datapath == 0x1 -> arp " + mac + "; outport = inport; go 9"}
	}
	for _, x := range []struct {
		what string
		rows []api.Row
		want []string
	}{
		{"none", nil, nil},
		{"one", []api.Row{vip("s", 6, 9, 80, way(2, 1), way(1, 1))}, answer("0xb")},
		{"TCP ahead of UDP", []api.Row{vip("s", 17, 9, 1, way(2, 1)), vip("s", 6, 9, 2, way(1, 1))}, answer("0xa")},
		{"a lesser port", []api.Row{vip("s", 6, 9, 10, way(2, 1)), vip("s", 6, 9, 9, way(1, 1))}, answer("0xa")},
		{"others' Ips", []api.Row{vip("s", 6, 8, 1, way(2, 1)), vip("s", 17, 9, 9, way(1, 1)), vip("s", 6, 10, 9, way(2, 1))}, answer("0xa")},
		{"another switch's", []api.Row{sw("a"), vif("c", "a", 1, 1), vip("a", 6, 9, 1, way(1, 1))}, nil},
	} {
		if got := arp(x.rows...); !slices.Equal(got, x.want) {
			t.Errorf("%s: %s", x.what, strings.Join(got, "\n"))
		}
		slices.Reverse(x.rows)
		if got := arp(x.rows...); !slices.Equal(got, x.want) {
			t.Errorf("%s, the other way round: %s", x.what, strings.Join(got, "\n"))
		}
	}
}

// P20.1: each Ip of Ways once, whatever VIPs have it, and in the Ways' own order.
func TestWays(t *testing.T) {
	rows := plain(vip("s", 6, 9, 1, way(2, 5), way(1, 5), way(2, 4)), vip("s", 17, 9, 1, way(2, 5)), vif("c", "s", 0xc, 3))
	l := compiled(t, rows, keysOf(t, rows), "s")
	has(t, "ways", l, 3,
		"100: eth.type == 0x800 && ip4.dst == 0x9 && ip.proto == 0x6 && tp.dst == 0x1 && ct.state == 0x1 / 0x1 && datapath == 0x1 -> pick [{2 5} {1 5} {2 4}]; reg0 = 0x3 / 0x3; go 4",
		"100: eth.type == 0x800 && ip4.dst == 0x9 && ip.proto == 0x11 && tp.dst == 0x1 && ct.state == 0x1 / 0x1 && datapath == 0x1 -> pick [{2 5}]; reg0 = 0x3 / 0x3; go 4",
		"0: datapath == 0x1 -> go 4")
	has(t, "ways", l, 4,
		"100: eth.type == 0x800 && ip4.dst == 0x1 && datapath == 0x1 && reg0 == 0x2 / 0x2 -> eth.dst = 0xa; go 5",
		"100: eth.type == 0x800 && ip4.dst == 0x2 && datapath == 0x1 && reg0 == 0x2 / 0x2 -> eth.dst = 0xb; go 5",
		"90: eth.type == 0x800 && ip4.dst == 0x1 && ct.state == 0xa / 0xe && datapath == 0x1 -> eth.dst = 0xa; go 5",
		"90: eth.type == 0x800 && ip4.dst == 0x2 && ct.state == 0xa / 0xe && datapath == 0x1 -> eth.dst = 0xb; go 5",
		"0: datapath == 0x1 -> go 5")
}

// P20.1: clones in the rows' order, which is not that of keys, nor that in which rows are handed in.
func TestCloneOrder(t *testing.T) {
	rows := []api.Row{vif("b", "s", 0xb, 2), vif("10", "s", 0xc, 3), vif("a", "s", 0xa, 1), vif("9", "s", 0xd, 4), vif("Z", "s", 0xe, 5), sw("s")}
	k := api.Keys{Switches: []api.Key{{Name: "s", Num: 1}}, Ports: []api.Key{{Name: "10", Num: 9}, {Name: "9", Num: 3}, {Name: "Z", Num: 7}, {Name: "a", Num: 5}, {Name: "b", Num: 1}}}
	want := "70: eth.dst == 0x10000000000 / 0x10000000000 && datapath == 0x1 && inport == 0x7 -> clone(outport = 0x9; go 9); clone(outport = 0x3; go 9); clone(outport = 0x5; go 9); clone(outport = 0x1; go 9)"
	if l := of(compiled(t, rows, k, "s"), 8); !slices.Contains(l, want) {
		t.Errorf("%s", strings.Join(l, "\n"))
	}
}
