package sem_test

import (
	"fmt"
	"slices"
	"strings"
	"testing"

	"skein/api"
	"skein/dhcp"
	"skein/sem"
)

// P24.2: where frames go: to one, to all, to nobody; out at VIFs that are bound, and not at others.
func TestWhereFramesGo(t *testing.T) {
	n := newPair(t, 1,
		sw("s"), vif("a", "s", 0x0a, 1), vif("b", "s", 0x0b, 2), vif("c", "s", 0x0c, 3), vif("d", "s", 0x0d, 4), bind("a", 0), bind("b", 0), bind("c", 1),
		router("r"), routerPort("r-s", "r", 0x51, 9, 24), link("l", "s", "r-s"),
		sw("u"), vif("e", "u", 0x0a, 1), vif("f", "u", 0x0b, 2), bind("e", 0), bind("f", 1))
	for _, x := range []struct {
		what     string
		from     string
		src, dst uint64
		at       []string
	}{
		{"to one here", "a", 0x0a, 0x0b, []string{"b"}},
		{"to one elsewhere", "a", 0x0a, 0x0c, []string{"c"}},
		{"to one that is not bound", "a", 0x0a, 0x0d, nil},
		{"to itself", "a", 0x0a, 0x0a, nil},
		{"to nobody", "a", 0x0a, 0x0e, nil},
		{"to all", "a", 0x0a, everybody, []string{"b", "c"}},
		{"to many", "c", 0x0c, 1 << 40, []string{"a", "b"}},
		{"to a link, no IPv4", "a", 0x0a, 0x51, nil},
		{"from another one's", "a", 0x0b, 0x0c, []string{"c"}},
		{"from another one's, to that one", "a", 0x0b, 0x0b, []string{"b"}},
		{"from nobody's", "a", 0x77, 0x0c, []string{"c"}},
		{"from many", "a", 1 << 40, 0x0c, nil},
		{"from everybody", "a", everybody, everybody, nil},
		{"from many, not of the lowest byte", "a", 1, 0x0c, []string{"c"}},
		{"in another switch", "e", 0x0a, 0x0b, []string{"f"}},
		{"in another switch, to all", "f", 0x0b, everybody, []string{"e"}},
		{"in another switch, to who is not there", "e", 0x0a, 0x0c, nil},
	} {
		for _, p := range []api.Packet{plain(x.src, x.dst), tagged(plain(x.src, x.dst), 5)} {
			var want []out
			for _, at := range x.at {
				want = append(want, out{at, p})
			}
			n.gives(t, x.what, x.from, p, want...)
		}
	}
	// IPv4 and ARP go as others do, where nothing is there that takes them.
	for _, p := range []api.Packet{udp(0x0a, 0x0b, 7, 8, 1, 2), fragment(0x0a, 0x0b, 1, 2), icmp(0x0a, 0x0b, 1, 2, 3, 1), tagged(asks(0x0a, 1, 99), 1), asks(0x0a, 1, 1)} {
		want := []out{{"b", p}}
		if p.IsArp {
			want = append(want, out{"c", p})
		}
		n.gives(t, "as it is", "a", p, want...)
	}
	n.change(t, adds(bind("d", 5))...)
	n.gives(t, "bound now", "a", plain(0x0a, 0x0d), out{"d", plain(0x0a, 0x0d)})
	n.change(t, dels(bind("d", 0), bind("c", 0))...)
	n.gives(t, "bound no more", "a", plain(0x0a, everybody), out{"b", plain(0x0a, everybody)})
}

// asksLease is a DHCP message of that type from a Mac.
func asksLease(t *testing.T, mac uint64, kind int, more ...api.Option) api.Packet {
	t.Helper()
	m := api.Dhcp{Op: 1, Xid: 0x1234, Flags: 0x8000, Chaddr: mac, Options: append([]api.Option{{Code: api.OptType, Data: string(rune(kind))}}, more...)}
	b, e := dhcp.Encode(m)
	if e != api.OK {
		t.Fatal(e)
	}
	p := udp(mac, everybody, 0, 1<<32-1, 68, 67)
	p.L4.Data = string(b)
	return p
}

// P24.2: port security with each kind of frame, with it and without.
func TestSecurity(t *testing.T) {
	const mac, ip = 0x0a, 1
	dhcpAsked := asksLease(t, mac, api.DhcpDiscover)
	// All go to b, the Mac of which they have as destination.
	frames := []struct {
		what string
		p    api.Packet
		may  bool
	}{
		{"another type", plain(mac, 0x0b), true},
		{"another type, tagged", tagged(plain(mac, 0x0b), 1), true},
		{"another type, from another Mac", plain(0x0b, 0x0b), false},
		{"IPv4", udp(mac, 0x0b, ip, 2, 1, 2), true},
		{"IPv4, tagged", tagged(udp(mac, 0x0b, ip, 2, 1, 2), 0), true},
		{"IPv4, a fragment", fragment(mac, 0x0b, ip, 2), true},
		{"IPv4, from another Ip", udp(mac, 0x0b, 2, 2, 1, 2), false},
		{"IPv4, from another Mac", udp(0x0c, 0x0b, ip, 2, 1, 2), false},
		{"IPv4, from 0", udp(mac, 0x0b, 0, 2, 1, 2), false},
		{"DHCP", between(dhcpAsked, mac, 0x0b), true},
		{"DHCP without a message", udp(mac, 0x0b, 0, 1<<32-1, 68, 67), true},
		{"DHCP, from its Ip", udp(mac, 0x0b, ip, 1<<32-1, 68, 67), true},
		{"DHCP, from another Mac", between(dhcpAsked, 0x0c, 0x0b), false},
		{"DHCP, from another Ip", udp(mac, 0x0b, 3, 1<<32-1, 68, 67), false},
		{"DHCP, to another Ip", udp(mac, 0x0b, 0, 1<<32-2, 68, 67), false},
		{"DHCP, from another port", udp(mac, 0x0b, 0, 1<<32-1, 69, 67), false},
		{"DHCP, to another port", udp(mac, 0x0b, 0, 1<<32-1, 68, 68), false},
		{"DHCP by TCP", tcp(mac, 0x0b, 0, 1<<32-1, 68, 67), false},
		{"ARP", arpOf(mac, 2, mac, ip), true},
		{"ARP, from another Mac", arpOf(0x0c, 2, mac, ip), false},
		{"ARP, another Sha", arpOf(mac, 2, 0x0c, ip), false},
		{"ARP, another Spa", arpOf(mac, 2, mac, 2), false},
		{"ARP, Spa 0", arpOf(mac, 1, mac, 0), false},
		{"ARP, of another Op", arpOf(mac, 7, mac, ip), true},
		{"ARP, a request", arpOf(mac, 1, mac, ip), true},
	}
	for _, isSecure := range []bool{false, true} {
		n := newPair(t, 1, sw("s"), flagged(vif("a", "s", mac, ip), isSecure, false), vif("b", "s", 0x0b, 2), bind("a", 0), bind("b", 1))
		for _, x := range frames {
			var want []out
			if x.may || !isSecure {
				want = []out{{"b", x.p}}
			}
			n.gives(t, fmt.Sprint(x.what, isSecure), "a", x.p, want...)
		}
		n.gives(t, "from many", "a", plain(1<<40|mac, 0x0b))
	}
}

// arpOf is an ARP packet to b, for an address that is nobody's.
func arpOf(src uint64, op int, sha uint64, spa uint32) api.Packet {
	return api.Packet{Eth: api.Eth{Src: src, Dst: 0x0b, Type: api.TypeArp}, IsArp: true, Arp: api.Arp{Op: op, Sha: sha, Spa: spa, Tha: 5, Tpa: 77}}
}

// P24.2: ACLs of several priorities, from a port and to a port, that hold and do not; in a switch without connections.
func TestAcls(t *testing.T) {
	ab := func(dport int) api.Packet { return udp(0x0a, 0x0b, 1, 2, 9, dport) }
	for _, x := range []struct {
		what string
		acls []api.Row
		p    api.Packet
		may  bool
	}{
		{"none", nil, ab(5), true},
		{"drop", []api.Row{acl("s", false, 3, "udp", api.AclDrop)}, ab(5), false},
		{"drop others", []api.Row{acl("s", false, 3, "tcp", api.AclDrop)}, ab(5), true},
		{"drop all", []api.Row{acl("s", false, 0, "1", api.AclDrop)}, plain(0x0a, 0x0b), false},
		{"drop nothing", []api.Row{acl("s", false, 0, "0", api.AclDrop)}, plain(0x0a, 0x0b), true},
		{"drop, of the greatest number", []api.Row{acl("s", false, 32767, "1", api.AclDrop)}, plain(0x0a, 0x0b), false},
		{"allow ahead of drop", []api.Row{acl("s", false, 3, "udp", api.AclDrop), acl("s", false, 4, "tp.dst == 5", api.AclAllow)}, ab(5), true},
		{"allow others ahead of drop", []api.Row{acl("s", false, 3, "udp", api.AclDrop), acl("s", false, 4, "tp.dst == 5", api.AclAllow)}, ab(6), false},
		{"drop ahead of allow", []api.Row{acl("s", false, 5, "udp", api.AclDrop), acl("s", false, 4, "tp.dst == 5", api.AclAllow)}, ab(5), false},
		{"10 is ahead of 9", []api.Row{acl("s", false, 9, "udp", api.AclDrop), acl("s", false, 10, "udp", api.AclAllow)}, ab(5), true},
		{"to a port", []api.Row{acl("s", true, 3, "udp", api.AclDrop)}, ab(5), false},
		{"to a port, others", []api.Row{acl("s", true, 3, "arp", api.AclDrop)}, ab(5), true},
		{"allowed from, dropped to", []api.Row{acl("s", true, 3, "udp", api.AclDrop), acl("s", false, 4, "udp", api.AclAllow)}, ab(5), false},
		{"dropped from, allowed to", []api.Row{acl("s", false, 3, "udp", api.AclDrop), acl("s", true, 4, "udp", api.AclAllow)}, ab(5), false},
		{"from a", []api.Row{acl("s", false, 3, "inport == a", api.AclDrop)}, ab(5), false},
		{"from b", []api.Row{acl("s", false, 3, "inport == \"b\"", api.AclDrop)}, ab(5), true},
		{"from a port, where it goes is not known yet", []api.Row{acl("s", false, 3, "outport == b", api.AclDrop)}, ab(5), true},
		{"it is 0 so far", []api.Row{acl("s", false, 3, "outport == 0", api.AclDrop)}, ab(5), false},
		{"to b", []api.Row{acl("s", true, 3, "outport == b && inport == a", api.AclDrop)}, ab(5), false},
		{"to b from c", []api.Row{acl("s", true, 3, "outport == b && inport == c", api.AclDrop)}, ab(5), true},
		{"to any but b", []api.Row{acl("s", true, 3, "outport != b", api.AclDrop)}, ab(5), true},
		{"what it has not is neither so nor otherwise", []api.Row{acl("s", false, 3, "tp.dst == 5 || tp.dst != 5", api.AclDrop)}, icmp(0x0a, 0x0b, 1, 2, 8, 0), true},
		{"of another switch", []api.Row{acl("t", false, 3, "1", api.AclDrop), acl("t", true, 3, "1", api.AclDrop)}, ab(5), true},
		{"tagged", []api.Row{acl("s", false, 3, "vlan.tag == 65543", api.AclDrop)}, tagged(ab(5), 7), false},
		{"by numbers", []api.Row{acl("s", false, 3, "inport == 1 && ip4.src == {0.0.0.1, 0.0.0.9}", api.AclDrop)}, ab(5), false},
	} {
		n := newPair(t, 1, append(x.acls, sw("s"), sw("t"), vif("a", "s", 0x0a, 1), vif("b", "s", 0x0b, 2), vif("c", "s", 0x0c, 3), bind("a", 0), bind("b", 1), bind("c", 2))...)
		var want []out
		if x.may {
			want = []out{{"b", x.p}}
		}
		n.gives(t, x.what, "a", x.p, want...)
		if len(n.Conns("a"))+len(n.Conns("b")) != 0 {
			t.Errorf("%s: %v, %v", x.what, n.conns("a"), n.conns("b"))
		}
	}
}

// P24.2: each copy of a frame to all is looked at for itself.
func TestAclOfCopies(t *testing.T) {
	n := newPair(t, 4, sw("s"), vif("a", "s", 0x0a, 1), vif("b", "s", 0x0b, 2), vif("c", "s", 0x0c, 3), vif("d", "s", 0x0d, 4), bind("a", 0), bind("b", 1), bind("c", 2), bind("d", 0),
		acl("s", true, 7, "outport == c", api.AclDrop), acl("s", true, 6, "outport == d && udp", api.AclRelated))
	p := udp(0x0a, everybody, 1, 1<<32-1, 5, 6)
	n.gives(t, "to all", "a", p, out{"b", p}, out{"d", p})
	if len(n.conns("d")) != 1 || len(n.conns("b")) != 0 || len(n.conns("c")) != 0 || len(n.conns("a")) != 0 {
		t.Errorf("%v, %v", n.conns("d"), n.conns("b"))
	}
}

// P24.2: connections that are remembered from a port: their answers come in, whatever rules say, till they end.
func TestRelated(t *testing.T) {
	n := newPair(t, 4, sw("s"), vif("a", "s", 0x0a, 1), vif("b", "s", 0x0b, 2), bind("a", 0), bind("b", 1),
		acl("s", false, 5, "inport == a && udp", api.AclRelated), acl("s", true, 5, "outport == a", api.AclDrop))
	p := udp(0x0a, 0x0b, 1, 2, 10, 20)
	n.gives(t, "nobody asked", "b", turned(p))
	n.gives(t, "asked", "a", p, out{"b", p})
	n.gives(t, "an answer", "b", turned(p), out{"a", turned(p)})
	n.gives(t, "another one's", "b", turned(udp(0x0a, 0x0b, 1, 2, 11, 20)))
	n.gives(t, "another type", "b", plain(0x0b, 0x0a))
	n.gives(t, "no tuple", "b", fragment(0x0b, 0x0a, 2, 1))
	n.gives(t, "TCP is not remembered", "a", tcp(0x0a, 0x0b, 1, 2, 10, 20), out{"b", tcp(0x0a, 0x0b, 1, 2, 10, 20)})
	n.gives(t, "its answer", "b", turned(tcp(0x0a, 0x0b, 1, 2, 10, 20)))
	if c := n.Conns("a"); len(c) != 1 || c[0].Orig != (api.Tuple{Proto: 17, Src: 1, Dst: 2, Sport: 10, Dport: 20}) || c[0].Nat {
		t.Errorf("%+v", c)
	}
	n.tick(t, 29)
	n.gives(t, "an answer, still", "b", turned(p), out{"a", turned(p)})
	n.tick(t, 29)
	n.gives(t, "an answer, once more", "b", turned(p), out{"a", turned(p)})
	n.tick(t, 30)
	n.gives(t, "too late", "b", turned(p))
	// A rule that comes later drops what is new, not what is known.
	n.gives(t, "asked again", "a", p, out{"b", p})
	n.change(t, adds(acl("s", false, 9, "udp", api.AclDrop))...)
	n.gives(t, "known", "a", p, out{"b", p})
	n.gives(t, "new", "a", udp(0x0a, 0x0b, 1, 2, 11, 20))
	n.gives(t, "an answer from b", "b", turned(p))
}

// P24.2: connections that are remembered to a port.
func TestRelatedTo(t *testing.T) {
	n := newPair(t, 4, sw("s"), vif("a", "s", 0x0a, 1), vif("b", "s", 0x0b, 2), bind("a", 0), bind("b", 1),
		acl("s", true, 5, "outport == b && icmp", api.AclRelated), acl("s", true, 4, "outport == b", api.AclDrop), acl("s", false, 1, "inport == b", api.AclDrop))
	ping := icmp(0x0a, 0x0b, 1, 2, 8, 0)
	pong := turned(ping)
	pong.L4 = ping.L4
	pong.L4.Type = 0
	n.gives(t, "nobody asked", "b", pong)
	n.gives(t, "asked", "a", ping, out{"b", ping})
	n.gives(t, "answered", "b", pong, out{"a", pong})
	if len(n.conns("a")) != 0 || !slices.Equal(n.conns("b"), [][2]uint32{{1, 2}}) {
		t.Errorf("%v, %v", n.conns("a"), n.conns("b"))
	}
	n.gives(t, "not so", "a", udp(0x0a, 0x0b, 1, 2, 1, 2))
	// Without a tuple nothing is remembered, and it goes on.
	told := icmp(0x0a, 0x0b, 1, 2, 3, 1)
	n.gives(t, "no tuple", "a", told, out{"b", told})
	if !slices.Equal(n.conns("b"), [][2]uint32{{1, 2}}) {
		t.Errorf("%v", n.conns("b"))
	}
}

// P24.2: what is remembered where a frame comes in is not where it goes out, and the other way round; both may be.
func TestZonesApart(t *testing.T) {
	p := udp(0x0a, 0x0b, 1, 2, 10, 20)
	for _, x := range []struct {
		acls []api.Row
		a, b int
	}{
		{[]api.Row{acl("s", false, 1, "1", api.AclRelated)}, 1, 0},
		{[]api.Row{acl("s", true, 1, "1", api.AclRelated)}, 0, 1},
		{[]api.Row{acl("s", false, 1, "1", api.AclRelated), acl("s", true, 1, "1", api.AclRelated)}, 1, 1},
		{[]api.Row{acl("s", false, 1, "tcp", api.AclRelated)}, 0, 0},
		{[]api.Row{acl("s", false, 1, "1", api.AclRelated), acl("s", true, 1, "1", api.AclDrop)}, 1, 0},
		{[]api.Row{acl("s", false, 1, "1", api.AclDrop), acl("s", true, 1, "1", api.AclRelated)}, 0, 0},
	} {
		for _, host := range []int{0, 1} {
			n := newPair(t, 4, append(x.acls, sw("s"), vif("a", "s", 0x0a, 1), vif("b", "s", 0x0b, 2), bind("a", 0), bind("b", host))...)
			n.inject(t, "a", printed(t, p))
			n.inject(t, "a", printed(t, plain(0x0a, 0x0b)))
			if len(n.Conns("a")) != x.a || len(n.Conns("b")) != x.b {
				t.Errorf("%+v: %v, %v", x.acls, n.conns("a"), n.conns("b"))
			}
		}
	}
}

// P24.2: a name in an ACL stands for the port's number; where that is too great for a field, the ACL does not hold.
func TestAclOfGreatKeys(t *testing.T) {
	rows := []api.Row{sw("s"), sw("t"), sw("u")}
	for i := range 128 {
		rows = append(rows, vif(fmt.Sprint("a", i), "t", uint64(i+1), uint32(i+1)), vif(fmt.Sprint("b", i), "u", uint64(i+1), uint32(i+1)))
	}
	rows = append(rows, vif("y", "s", 0x0a, 1), vif("z", "s", 0x0b, 2), bind("y", 0), bind("z", 0), acl("s", false, 2, "ip.ttl == \"z\" || ip.ttl == 9", api.AclDrop), acl("s", false, 1, "tp.dst == z", api.AclDrop))
	n := newPair(t, 1, rows...)
	p := udp(0x0a, 0x0b, 1, 2, 3, 4)
	n.gives(t, "it does not hold", "y", p, out{"z", p})
	n.gives(t, "the other one holds", "y", udp(0x0a, 0x0b, 1, 2, 3, 258))
	n.gives(t, "the other one does not", "y", udp(0x0a, 0x0b, 1, 2, 3, 257), out{"z", udp(0x0a, 0x0b, 1, 2, 3, 257)})
}

// P24.2: an ACL holds by expr.Holds, however many matches it would be with the ports' numbers.
func TestWideAcl(t *testing.T) {
	w, _ := sem.New(1)
	rows := []api.Row{sw("s"), acl("s", false, 1, "inport <= z && tp.src <= z && tp.dst <= z", api.AclDrop)}
	for i := range 62 {
		rows = append(rows, vif(fmt.Sprint("a", i), "s", uint64(i+1), uint32(i+1)))
	}
	rows = append(rows, vif("z", "s", 0x77, 0x77), bind("a0", 0), bind("a1", 0))
	if e, at := w.Apply(adds(rows...)); e != api.OK {
		t.Fatal(e, at)
	}
	for port, want := range map[int]int{5: 0, 63: 0, 64: 1} {
		if l, e := w.Inject("a0", printed(t, udp(1, 2, 1, 2, port, 5))); len(l) != want || e != api.OK {
			t.Errorf("from %d: %s", port, tell(l))
		}
	}
}

// P24.2: a load balancer: new connections, known ones, answers.
func TestBalancer(t *testing.T) {
	const asked = 99
	rows := []api.Row{sw("s"), vif("a", "s", 0x0a, 1), vif("b", "s", 0x0b, 2), vif("c", "s", 0x0c, 3), vif("d", "s", 0x0d, 4), bind("a", 0), bind("b", 1), bind("c", 0), bind("d", 2)}
	n := newPair(t, 40, append(rows, vip("s", api.ProtoUdp, asked, 53, api.Way{Ip: 2, Port: 5353}, api.Way{Ip: 3, Port: 53}), vip("s", api.ProtoTcp, asked, 80, api.Way{Ip: 4, Port: 8080}))...)
	picked := map[uint32]int{}
	for sport := 1000; sport < 1030; sport++ {
		p := udp(0x0a, 0x77, 1, asked, sport, 53)
		got := n.inject(t, "a", printed(t, p))
		if len(got) != 1 {
			t.Fatalf("%s", tell(got))
		}
		way := map[string]out{"b": {"b", udp(0x0a, 0x0b, 1, 2, sport, 5353)}, "c": {"c", udp(0x0a, 0x0c, 1, 3, sport, 53)}}[got[0].Port]
		if got[0].Frame != string(printed(t, way.p)) {
			t.Errorf("%s", tell(got))
		}
		picked[way.p.Ip.Dst]++
		n.gives(t, "known", "a", p, way)
		// The answer comes from the address that was asked.
		answer := turned(way.p)
		n.gives(t, "the answer", way.port, answer, out{"a", between(turned(p), answer.Eth.Src, 0x0a)})
		if c := n.Conns(way.port); len(c) != 0 {
			t.Errorf("%+v", c)
		}
	}
	if len(picked) != 2 {
		t.Errorf("picked: %v", picked)
	}
	if c := n.Conns("a"); len(c) != 30 || !c[0].Nat || c[0].Orig != (api.Tuple{Proto: 17, Src: 1, Dst: asked, Sport: 1000, Dport: 53}) {
		t.Errorf("%+v", c)
	}
	n.gives(t, "by TCP", "a", tcp(0x0a, everybody, 1, asked, 7, 80), out{"d", tcp(0x0a, 0x0d, 1, 4, 7, 8080)})
	for what, p := range map[string]api.Packet{
		"another port": udp(0x0a, 0x0b, 1, asked, 7, 54), "another protocol": tcp(0x0a, 0x0b, 1, asked, 7, 53), "another address": udp(0x0a, 0x0b, 1, 98, 7, 53),
		"a fragment": fragment(0x0a, 0x0b, 1, asked), "an echo": icmp(0x0a, 0x0b, 1, asked, 8, 0), "a Way's own": udp(0x0a, 0x0b, 1, 2, 7, 5353), "another type": plain(0x0a, 0x0b),
	} {
		n.gives(t, what, "a", p, out{"b", p})
	}
	if len(n.Conns("a")) != 31 {
		t.Errorf("%d connections", len(n.Conns("a")))
	}
	// A part of a packet has no ports, whatever those of a VIP are.
	n.change(t, adds(vip("s", api.ProtoUdp, asked, 0, api.Way{Ip: 4, Port: 1}))...)
	n.gives(t, "a fragment, and port 0", "a", fragment(0x0a, 0x0b, 1, asked), out{"b", fragment(0x0a, 0x0b, 1, asked)})
	n.gives(t, "port 0", "a", udp(0x0a, 0x0b, 1, asked, 7, 0), out{"d", udp(0x0a, 0x0d, 1, 4, 7, 1)})
}

// P24.2: what is known goes to the VIF that has the Way's Ip, as long as one does; answers go where they are meant for.
func TestKnownWays(t *testing.T) {
	const asked = 99
	rows := []api.Row{sw("s"), vif("a", "s", 0x0a, 1), vif("b", "s", 0x0b, 2), vif("c", "s", 0x0c, 3), bind("a", 0), bind("b", 1), bind("c", 0)}
	n := newPair(t, 4, append(rows, vip("s", api.ProtoUdp, asked, 53, api.Way{Ip: 2, Port: 53}))...)
	p := udp(0x0a, 0x0c, 1, asked, 7, 53)
	n.gives(t, "new", "a", p, out{"b", udp(0x0a, 0x0b, 1, 2, 7, 53)})
	// Another Mac comes to have the Way's Ip.
	n.change(t, adds(vif("b", "s", 0x1b, 2))...)
	n.gives(t, "another Mac", "a", p, out{"b", udp(0x0a, 0x1b, 1, 2, 7, 53)})
	// The Way is one no more: the address is changed still, where it goes is not.
	n.change(t, append(dels(vip("s", api.ProtoUdp, asked, 53)), adds(vip("s", api.ProtoUdp, 98, 1, api.Way{Ip: 3, Port: 1}))...)...)
	n.gives(t, "no Way any more", "a", p, out{"c", udp(0x0a, 0x0c, 1, 2, 7, 53)})
	// No VIP at all: the switch is not stateful, and does not look.
	n.change(t, dels(vip("s", api.ProtoUdp, 98, 1))...)
	n.gives(t, "no VIP any more", "a", p, out{"c", p})
}

// P24.2: to a Way's VIF goes what a VIP was asked for, not what comes back, and not what went to the Way itself.
func TestWaysOfOthers(t *testing.T) {
	n := newPair(t, 4, sw("s"), vif("a", "s", 0x0a, 1), vif("b", "s", 0x0b, 2), vif("c", "s", 0x0c, 3), bind("a", 0), bind("b", 1), bind("c", 0),
		vip("s", api.ProtoUdp, 98, 1, api.Way{Ip: 1, Port: 1}), vip("s", api.ProtoUdp, 99, 53, api.Way{Ip: 2, Port: 53}), acl("s", false, 1, "udp", api.AclRelated))
	n.gives(t, "asked", "a", udp(0x0a, 0x0c, 1, 99, 7, 53), out{"b", udp(0x0a, 0x0b, 1, 2, 7, 53)})
	n.gives(t, "as an answer, from a itself", "a", udp(0x0a, 0x0c, 2, 1, 53, 7), out{"c", udp(0x0a, 0x0c, 99, 1, 53, 7)})
	for range 2 {
		n.gives(t, "to the Way itself", "a", udp(0x0a, 0x0c, 1, 2, 8, 53), out{"c", udp(0x0a, 0x0c, 1, 2, 8, 53)})
	}
	if c := n.Conns("a"); len(c) != 2 || c[0].Nat || !c[1].Nat {
		t.Errorf("%+v", c)
	}
}

// P24.2: where what is picked can't be remembered it is dropped: the zone is full, or the answers would not be known
// apart. An ACL drops ahead of that.
func TestBalancerDrops(t *testing.T) {
	rows := []api.Row{sw("s"), vif("a", "s", 0x0a, 1), vif("b", "s", 0x0b, 2), bind("a", 0), bind("b", 1), vip("s", api.ProtoUdp, 98, 53, api.Way{Ip: 2, Port: 53}), vip("s", api.ProtoUdp, 99, 53, api.Way{Ip: 2, Port: 53})}
	n := newPair(t, 2, rows...)
	way := func(sport int) out { return out{"b", udp(0x0a, 0x0b, 1, 2, sport, 53)} }
	n.gives(t, "one", "a", udp(0x0a, 0, 1, 98, 7, 53), way(7))
	n.gives(t, "the same answers", "a", udp(0x0a, 0, 1, 99, 7, 53))
	n.gives(t, "two", "a", udp(0x0a, 0, 1, 99, 8, 53), way(8))
	n.gives(t, "full", "a", udp(0x0a, 0, 1, 99, 9, 53))
	n.gives(t, "known", "a", udp(0x0a, 0, 1, 99, 8, 53), way(8))
	n.tick(t, 30)
	n.change(t, adds(acl("s", false, 1, "ip4.dst == 0.0.0.98", api.AclDrop), acl("s", true, 1, "ip4.dst == 0.0.0.99", api.AclDrop))...)
	n.gives(t, "an ACL drops", "a", udp(0x0a, 0, 1, 98, 9, 53))
	if len(n.Conns("a")) != 0 {
		t.Errorf("%v", n.conns("a"))
	}
	n.gives(t, "an ACL to b sees what was picked", "a", udp(0x0a, 0, 1, 99, 9, 53), way(9))
}

// P24.2: ARP requests that the switch answers, and those that it leaves alone.
func TestArp(t *testing.T) {
	n := newPair(t, 4,
		sw("s"), vif("a", "s", 0x0a, 1), vif("b", "s", 0x0b, 2), vif("c", "s", 0x0c, 3), bind("a", 0), bind("b", 1),
		router("r"), routerPort("r-s", "r", 0x51, 9, 24), routerPort("r-t", "r", 0x52, 8, 32), link("l", "s", "r-s"),
		sw("t"), vif("d", "t", 0x0d, 4), link("m", "t", "r-t"),
		vip("s", api.ProtoUdp, 99, 5, api.Way{Ip: 3, Port: 1}), vip("s", api.ProtoTcp, 99, 6, api.Way{Ip: 2, Port: 1}, api.Way{Ip: 1, Port: 1}), vip("s", api.ProtoTcp, 98, 7, api.Way{Ip: 1, Port: 1}), vip("t", api.ProtoTcp, 97, 7, api.Way{Ip: 4, Port: 1}))
	for what, x := range map[string]struct {
		ip  uint32
		mac uint64
	}{
		"another VIF": {2, 0x0b}, "one that is not bound": {3, 0x0c}, "a link": {9, 0x51}, "a VIP: TCP comes ahead of UDP": {99, 0x0b}, "a VIP that leads back": {98, 0x0a},
	} {
		for _, p := range []api.Packet{asks(0x0a, 1, x.ip), tagged(asks(0x0a, 1, x.ip), 5), asks(0x77, 66, x.ip), between(asks(0x0a, 1, x.ip), 0x0a, 0x0b)} {
			n.gives(t, what, "a", p, out{"a", answered(p, x.mac)})
		}
	}
	for what, ip := range map[string]uint32{"its own": 1, "nobody's": 50, "another switch's": 4, "another switch's VIP": 97, "another router's port's": 8, "0": 0} {
		p := asks(0x0a, 1, ip)
		n.gives(t, what, "a", p, out{"b", p})
	}
	for _, op := range []int{0, 2, 3, 257, 65535} {
		p := asks(0x0a, 1, 2)
		p.Arp.Op = op
		n.gives(t, fmt.Sprint("Op ", op), "a", p, out{"b", p})
	}
	// The answer goes out by the rules, as from the port itself.
	n.change(t, adds(acl("s", true, 5, "arp.op == 2 && arp.spa == 0.0.0.2 && inport == a && outport == a", api.AclDrop))...)
	n.gives(t, "its answer is dropped", "a", asks(0x0a, 1, 2))
	n.gives(t, "another answer", "a", asks(0x0a, 1, 9), out{"a", answered(asks(0x0a, 1, 9), 0x51)})
	n.change(t, adds(acl("s", false, 5, "arp", api.AclDrop))...)
	n.gives(t, "the request is dropped", "a", asks(0x0a, 1, 9))
}

// leased is what the switch answers to a DHCP request.
func leased(t *testing.T, p api.Packet, l api.Lease, from uint64) api.Packet {
	t.Helper()
	m, e := dhcp.Decode([]byte(p.L4.Data))
	a, ok := dhcp.Answer(m, l)
	b, fault := dhcp.Encode(a)
	if e != api.OK || !ok || fault != api.OK {
		t.Fatal("no answer")
	}
	p.Eth.Dst, p.Eth.Src = l.Mac, from
	p.Ip = api.Ip{Ttl: 64, Proto: api.ProtoUdp, Src: l.Server, Dst: 1<<32 - 1}
	p.L4 = api.L4{Kind: api.KindUdp, Sport: 67, Dport: 68, Data: string(b)}
	return p
}

// P24.2: DHCP, with a lease's answer and with none; in switches with a link and without; of ports that have it and not.
func TestDhcp(t *testing.T) {
	a := flagged(vif("a", "s", 0x0a, addr(10, 0, 0, 1)), false, true)
	alone := api.Lease{Mac: 0x0a, Ip: addr(10, 0, 0, 1), Server: addr(169, 254, 169, 254), Mask: 0xffffff00, Time: 3600}
	routed := api.Lease{Mac: 0x0a, Ip: addr(10, 0, 0, 1), Server: addr(10, 0, 0, 9), Router: addr(10, 0, 0, 9), Mask: 0xfffff000, Time: 3600}
	rows := []api.Row{sw("s"), a, vif("b", "s", 0x0b, 2), bind("a", 0), bind("b", 1)}
	linked := append(rows, router("r"), routerPort("r-s", "r", 0x51, addr(10, 0, 0, 9), 20), link("l", "s", "r-s"))
	for _, x := range []struct {
		rows  []api.Row
		lease api.Lease
		from  uint64
	}{{rows, alone, 0x0a0000000001}, {linked, routed, 0x51}} {
		n := newPair(t, 4, x.rows...)
		server := string([]byte{byte(x.lease.Server >> 24), byte(x.lease.Server >> 16), byte(x.lease.Server >> 8), byte(x.lease.Server)})
		for _, p := range []api.Packet{
			asksLease(t, 0x0a, api.DhcpDiscover), asksLease(t, 0x0a, api.DhcpRequest), asksLease(t, 0x0a, api.DhcpRequest, api.Option{Code: api.OptServer, Data: server}),
			tagged(asksLease(t, 0x0a, api.DhcpDiscover), 5), between(asksLease(t, 0x0a, api.DhcpDiscover), 0x99, 0x0b),
		} {
			p.Pad = "pad"
			n.gives(t, "answered", "a", p, out{"a", leased(t, p, x.lease, x.from)})
			p.Ip.Src = 77
			n.gives(t, "from any Ip", "a", p, out{"a", leased(t, p, x.lease, x.from)})
		}
		for what, p := range map[string]api.Packet{
			"another Chaddr": asksLease(t, 0x0b, api.DhcpDiscover), "another type": asksLease(t, 0x0a, 7), "another server": asksLease(t, 0x0a, api.DhcpRequest, api.Option{Code: api.OptServer, Data: "abcd"}),
			"no message": udp(0x0a, everybody, 0, 1<<32-1, 68, 67),
		} {
			n.gives(t, what, "a", p)
		}
		toOne, other := asksLease(t, 0x0a, api.DhcpDiscover), asksLease(t, 0x0a, api.DhcpDiscover)
		toOne.Ip.Dst, other.L4.Sport = 5, 69
		for what, p := range map[string]api.Packet{"to one Ip": toOne, "from another port": other} {
			n.gives(t, what, "a", p, out{"b", p})
		}
		p := asksLease(t, 0x0b, api.DhcpDiscover)
		n.gives(t, "at a port without it", "b", p, out{"a", p})
	}
}

// P24.2: where Print refuses, nothing is emitted: here a lease's answer, with what stood behind the request.
func TestTooLong(t *testing.T) {
	n := newPair(t, 4, sw("s"), flagged(vif("a", "s", 0x0a, 1), false, true), vif("b", "s", 0x0b, 2), bind("a", 0), bind("b", 1))
	p := asksLease(t, 0x0a, api.DhcpDiscover)
	size := len(printed(t, p))
	want := leased(t, p, api.Lease{Mac: 0x0a, Ip: 1, Server: addr(169, 254, 169, 254), Mask: 0xffffff00, Time: 3600}, 0x0a0000000001)
	more := len(printed(t, want)) - size
	if more <= 0 {
		t.Fatalf("%d bytes more", more)
	}
	p.Pad = strings.Repeat("x", api.MaxFrame-size-more)
	want.Pad = p.Pad
	n.gives(t, "just as long as may be", "a", p, out{"a", want})
	p.Pad += "x"
	n.gives(t, "a byte more", "a", p)
	n.change(t, adds(vif("a", "s", 0x0a, 1))...)
	n.gives(t, "without DHCP", "a", p, out{"b", p})
}

// P24.2: a lease's answer goes out by the rules and connections of its port.
func TestDhcpAnswerGoesOut(t *testing.T) {
	rows := []api.Row{sw("s"), flagged(vif("a", "s", 0x0a, 1), true, true), vif("b", "s", 0x0b, 2), bind("a", 0), bind("b", 1), acl("s", false, 1, "udp", api.AclRelated)}
	n := newPair(t, 4, rows...)
	p := asksLease(t, 0x0a, api.DhcpDiscover)
	want := leased(t, p, api.Lease{Mac: 0x0a, Ip: 1, Server: addr(169, 254, 169, 254), Mask: 0xffffff00, Time: 3600}, 0x0a0000000001)
	n.gives(t, "answered", "a", p, out{"a", want})
	if !slices.Equal(n.conns("a"), [][2]uint32{{0, 1<<32 - 1}}) {
		t.Errorf("%v", n.conns("a"))
	}
	n.change(t, adds(acl("s", true, 1, "udp && inport == a && outport == a", api.AclRelated))...)
	n.gives(t, "answered", "a", p, out{"a", want})
	if len(n.conns("a")) != 2 {
		t.Errorf("%v", n.conns("a"))
	}
	n.change(t, adds(acl("s", true, 2, "tp.src == 67", api.AclDrop))...)
	n.tick(t, 30)
	n.gives(t, "dropped", "a", p)
	n.change(t, append(dels(acl("s", true, 2, "", 0)), adds(acl("s", false, 9, "tp.dst == 67", api.AclDrop))...)...)
	n.gives(t, "the request is known", "a", p, out{"a", want})
	n.tick(t, 30)
	n.gives(t, "the request is dropped", "a", p)
}
