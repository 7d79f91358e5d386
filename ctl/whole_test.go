package ctl_test

import (
	"fmt"
	"slices"
	"strings"
	"testing"

	"skein/api"
	"skein/geneve"
	"skein/packet"
)

// campus is two switches with a router between them: s with the VIFs a, b on the hosts 0 and 1, and t with c on the host
// 2 and d on the host 0.
func campus() []api.Row {
	return []api.Row{
		sw("s"), sw("t"), router("r"),
		vif("a", "s", 0x0a, addr(10, 0, 1, 1)), vif("b", "s", 0x0b, addr(10, 0, 1, 2)), vif("c", "t", 0x0c, addr(10, 0, 2, 1)), vif("d", "t", 0x0d, addr(10, 0, 2, 2)),
		routerPort("r-s", "r", 0x51, addr(10, 0, 1, 254), 24), routerPort("r-t", "r", 0x52, addr(10, 0, 2, 254), 24), link("l", "s", "r-s"), link("m", "t", "r-t"),
		bind("a", 0), bind("b", 1), bind("c", 2), bind("d", 0),
	}
}

// P1 of the whole: its examples 1 to 4: frames over wires, ARP, and what routers answer.
func TestFramesAndRouters(t *testing.T) {
	n := newBoth(t, 8, campus()...)
	n.gives(t, "1: from one to the other", "a", plain(0x0a, 0x0b), 1, out{"b", plain(0x0a, 0x0b)})
	// The router's ports are on each host: what a says to d does not leave the host 0.
	routed := udp(0x0a, 0x51, addr(10, 0, 1, 1), addr(10, 0, 2, 2), 7, 8)
	n.gives(t, "by the router", "a", routed, 0, out{"d", withTtl(between(routed, 0x52, 0x0d), 8)})
	far := udp(0x0a, 0x51, addr(10, 0, 1, 1), addr(10, 0, 2, 1), 7, 8)
	n.gives(t, "by the router, over a wire", "a", far, 1, out{"c", withTtl(between(far, 0x52, 0x0c), 8)})
	asked := asks(0x0a, addr(10, 0, 1, 1), addr(10, 0, 1, 2))
	n.gives(t, "2: ARP for a neighbour", "a", asked, 0, out{"a", answered(asked, 0x0b)})
	nobody := asks(0x0a, addr(10, 0, 1, 1), addr(10, 0, 1, 77))
	n.gives(t, "ARP for nobody", "a", nobody, 1, out{"b", nobody})
	ping := icmp(0x0a, 0x51, addr(10, 0, 1, 1), addr(10, 0, 2, 254), 8, 0)
	pong, _ := packet.Echo(ping)
	if pong.Ip.Ttl != 64 {
		t.Errorf("Ttl %d", pong.Ip.Ttl)
	}
	n.gives(t, "3: a ping of a router's port", "a", ping, 0, out{"a", pong})
	dying := withTtl(routed, 1)
	told, _ := packet.Error(dying, 0x51, addr(10, 0, 1, 254), 11, 0)
	n.gives(t, "4: Ttl 1", "a", dying, 0, out{"a", told})
	lost := udp(0x0a, 0x51, addr(10, 0, 1, 1), addr(99, 0, 0, 1), 7, 8)
	told, _ = packet.Error(lost, 0x51, addr(10, 0, 1, 254), 3, 0)
	n.gives(t, "no way", "a", lost, 0, out{"a", told})
}

// P1 and P5 of the whole: its example 5: a rule that remembers, and for how long.
func TestRememberedRule(t *testing.T) {
	asked := udp(0x0a, 0x0b, 1, 2, 7, 8)
	answer := turned(asked)
	n := newBoth(t, 8, sw("s"), vif("a", "s", 0x0a, 1), vif("b", "s", 0x0b, 2), bind("a", 0), bind("b", 1),
		acl("s", true, 0, "ip4", api.AclDrop), acl("s", true, 1, "inport == a && udp", api.AclRelated), acl("s", false, 1, "inport == a && udp", api.AclRelated))
	n.gives(t, "not asked for", "b", answer, 1)
	n.gives(t, "asked", "a", asked, 1, out{"b", asked})
	n.gives(t, "the answer", "b", answer, 1, out{"a", answer})
	n.gives(t, "another port", "b", udp(0x0b, 0x0a, 2, 1, 8, 9), 1)
	n.tick(t, api.CtLife-1)
	n.gives(t, "the answer, just in time", "b", answer, 1, out{"a", answer})
	n.tick(t, api.CtLife)
	n.gives(t, "too late", "b", answer, 1)
}

// P1 of the whole: its example 6: a load balancer.
func TestLoadBalancer(t *testing.T) {
	n := newBoth(t, 64, sw("s"), vif("a", "s", 0x0a, 1), vif("b", "s", 0x0b, 2), vif("c", "s", 0x0c, 3), bind("a", 0), bind("b", 1), bind("c", 2),
		vip("s", api.ProtoUdp, 99, 53, api.Way{Ip: 2, Port: 5353}, api.Way{Ip: 3, Port: 5454}))
	ways := map[string]api.Packet{"b": udp(0x0a, 0x0b, 1, 2, 0, 5353), "c": udp(0x0a, 0x0c, 1, 3, 0, 5454)}
	had := map[string]int{}
	for sport := range 40 {
		asked := udp(0x0a, 0x77, 1, 99, 1000+sport, 53)
		got := n.inject(t, "a", printed(t, asked))
		if len(got) != 1 {
			t.Fatalf("%d: %s", sport, tell(got))
		}
		port := got[0].Port
		had[port]++
		seen := ways[port]
		seen.L4.Sport = 1000 + sport
		if got[0].Frame != string(printed(t, seen)) {
			t.Errorf("%d: %s", sport, tell(got))
		}
		// The answer comes from whom was asked; and so it is where that one moved to.
		answer := turned(asked)
		answer.Eth.Src = seen.Eth.Dst
		n.gives(t, "answered", port, turned(seen), 1, out{"a", answer})
		if sport%8 == 0 {
			n.change(t, adds(bind("a", 10+sport))...)
			n.gives(t, "asked again", "a", asked, 1, out{port, seen})
		}
	}
	if had["b"] == 0 || had["c"] == 0 {
		t.Errorf("%v", had)
	}
}

// P1 of the whole: its examples 7 and 8: NAT, and port security.
func TestNatAndSecurity(t *testing.T) {
	n := newBoth(t, 8, append(campus(), nat("r", "r-t", addr(1, 1, 1, 1), addr(10, 0, 1, 1)), route("r", addr(1, 1, 1, 0), 24, addr(10, 0, 2, 254), "r-t"))...)
	goes := udp(0x0a, 0x51, addr(10, 0, 1, 1), addr(10, 0, 2, 1), 7, 8)
	seen := withTtl(udp(0x52, 0x0c, addr(1, 1, 1, 1), addr(10, 0, 2, 1), 7, 8), 8)
	n.gives(t, "7: out", "a", goes, 1, out{"c", seen})
	answer := turned(withTtl(seen, 9))
	n.gives(t, "7: and back", "c", answer, 1, out{"a", withTtl(udp(0x51, 0x0a, addr(10, 0, 2, 1), addr(10, 0, 1, 1), 8, 7), 8)})
	n.change(t, adds(flagged(vif("a", "s", 0x0a, addr(10, 0, 1, 1)), true, false))...)
	n.gives(t, "8: its own address", "a", udp(0x0a, 0x0b, addr(10, 0, 1, 1), addr(10, 0, 1, 2), 7, 8), 1, out{"b", udp(0x0a, 0x0b, addr(10, 0, 1, 1), addr(10, 0, 1, 2), 7, 8)})
	n.gives(t, "8: another one's", "a", udp(0x0a, 0x0b, addr(10, 0, 1, 3), addr(10, 0, 1, 2), 7, 8), 0)
	n.gives(t, "8: another one's Mac", "a", plain(0x0c, 0x0b), 0)
}

// P3 and P4 of the whole: its examples 9 and 10: a port that moves with its connections; what is refused.
func TestMoveAndRefusal(t *testing.T) {
	n := newBoth(t, 8, append(campus(), acl("t", true, 0, "ip4", api.AclDrop), acl("t", false, 1, "udp", api.AclRelated))...)
	asked := udp(0x0c, 0x52, addr(10, 0, 2, 1), addr(10, 0, 1, 1), 7, 8)
	n.gives(t, "asked", "c", asked, 1, out{"a", withTtl(between(asked, 0x51, 0x0a), 8)})
	answer := udp(0x0a, 0x51, addr(10, 0, 1, 1), addr(10, 0, 2, 1), 8, 7)
	back := withTtl(between(answer, 0x52, 0x0c), 8)
	for _, host := range []int{0, 63, 7, 2, 0} {
		n.change(t, adds(bind("c", host))...)
		n.gives(t, fmt.Sprint("9: on the host ", host), "a", answer, min(host, 1), out{"c", back})
	}
	before := state(n.Ctl)
	if _, e := n.apply(t, adds(bind("c", 9), vif("x", "s", 0x0b, addr(10, 0, 1, 9)))...); e != api.ErrClash || state(n.Ctl) != before {
		t.Errorf("10: %d", e)
	}
}

// row of routers: the switches s0, s1, .. and between each two of them a router that leads on to the next one.
func routersInARow(count int) []api.Row {
	rows := []api.Row{sw("s0"), vif("v0", "s0", 0x0a, addr(10, 0, 0, 1)), bind("v0", 0)}
	for i := range uint32(count) {
		r, s := fmt.Sprint("r", i), fmt.Sprint("s", i+1)
		v := fmt.Sprint("v", i+1)
		rows = append(rows,
			router(r), sw(s), routerPort(r+"-in", r, 0x100+uint64(i), addr(10, 0, i, 254), 24), routerPort(r+"-out", r, 0x200+uint64(i), addr(10, 0, i+1, 253), 24),
			link(r+"-l", fmt.Sprint("s", i), r+"-in"), link(r+"-m", s, r+"-out"), vif(v, s, 0x0a, addr(10, 0, i+1, 1)), bind(v, int(i)%5),
			route(r, addr(10, 0, 0, 0), 24, addr(10, 0, i, 253), r+"-in"))
		if i+1 < uint32(count) {
			rows = append(rows, route(r, 0, 0, addr(10, 0, i+1, 254), r+"-out"))
		}
	}
	return rows
}

// P25.6: a packet passes MaxHops routers, and no more; its runs end.
func TestRoutersInARow(t *testing.T) {
	n := newBoth(t, 8, routersInARow(api.MaxHops+4)...)
	for i := 1; i <= api.MaxHops+4; i++ {
		p := withTtl(udp(0x0a, 0x100, addr(10, 0, 0, 1), addr(10, 0, uint32(i), 1), 7, 8), 255)
		got := n.inject(t, "v0", printed(t, p))
		if i > api.MaxHops {
			if len(got) != 0 {
				t.Errorf("%d routers: %s", i, tell(got))
			}
			continue
		}
		want := withTtl(between(p, 0x200+uint64(i)-1, 0x0a), 255-i)
		if len(got) != 1 || got[0].Port != fmt.Sprint("v", i) || got[0].Frame != string(printed(t, want)) {
			t.Errorf("%d routers: %s", i, tell(got))
		}
		// Behind fewer routers than it would pass its life ends.
		n.inject(t, "v0", printed(t, withTtl(p, i)))
	}
	if n.Goes() == 0 {
		t.Errorf("no goes")
	}
}

// P25.6: routers that send a packet to and fro, each to the other one, and one to itself.
func TestToAndFro(t *testing.T) {
	rows := []api.Row{
		sw("s"), vif("a", "s", 0x0a, addr(10, 0, 0, 1)), vif("b", "s", 0x0b, addr(10, 0, 0, 2)), bind("a", 0), bind("b", 1), router("q"), router("r"),
		routerPort("q1", "q", 0x51, addr(10, 0, 0, 251), 24), routerPort("r1", "r", 0x52, addr(10, 0, 0, 252), 24), link("l", "s", "q1"), link("m", "s", "r1"),
		route("q", 0, 0, addr(10, 0, 0, 252), "q1"), route("r", 0, 0, addr(10, 0, 0, 251), "r1"),
		nat("q", "q1", addr(1, 1, 1, 1), addr(10, 0, 0, 1)),
	}
	n := newBoth(t, 8, rows...)
	for ttl := range 256 {
		p := withTtl(udp(0x0a, 0x51, addr(10, 0, 0, 1), addr(99, 0, 0, 1), 7, 8), ttl)
		n.inject(t, "a", printed(t, p))
		if n.Goes() > api.MaxBudget {
			t.Errorf("Ttl %d: %d goes", ttl, n.Goes())
		}
	}
	p := withTtl(udp(0x0a, 0x51, addr(10, 0, 0, 1), addr(10, 0, 0, 2), 7, 8), 255)
	if got := n.inject(t, "a", printed(t, p)); len(got) != 1 || got[0].Port != "b" {
		t.Errorf("%s", tell(got))
	}
}

// crowd is a switch of MaxPorts VIFs, each on the host that it is told.
func crowd(host func(i int) int) []api.Row {
	rows := []api.Row{sw("s")}
	for i := range api.MaxPorts {
		name := fmt.Sprintf("p%03d", i)
		rows = append(rows, vif(name, "s", 0x1000+uint64(i), addr(10, 0, 0, 0)+uint32(i+1)), bind(name, host(i)))
	}
	return rows
}

// P25.6: a switch of as many ports as there may be, and a frame to all of them: on one host, on two, on all hosts.
func TestFrameToAll(t *testing.T) {
	for _, hosts := range []int{1, 2, api.MaxHosts} {
		rows := append(crowd(func(i int) int { return i % hosts }),
			acl("s", false, 1, "udp", api.AclRelated), acl("s", true, 1, "udp", api.AclRelated), acl("s", true, 0, "tcp", api.AclDrop))
		n := newBoth(t, 8, rows...)
		p := udp(0x1000, everybody, addr(10, 0, 0, 1), addr(10, 0, 0, 255), 7, 8)
		got := n.inject(t, "p000", printed(t, p))
		away := api.MaxPorts - api.MaxPorts/hosts
		if len(got) != api.MaxPorts-1 || len(n.Wires()) != away || n.Goes() > api.MaxBudget {
			t.Errorf("%d hosts: %d frames, %d wires, %d goes", hosts, len(got), len(n.Wires()), n.Goes())
		}
		// Table 0 to 8, then for each other port 9, and behind it 10 to 13; those of another host begin at 10.
		if want := 8 + (api.MaxPorts - 1) + 4*(api.MaxPorts-1) - away; n.Goes() != want {
			t.Errorf("%d hosts: %d goes, not %d", hosts, n.Goes(), want)
		}
		for i, e := range got {
			if e.Port != fmt.Sprintf("p%03d", i+1) || e.Frame != string(printed(t, p)) || len(n.Conns(e.Port)) != 1 {
				t.Errorf("%d hosts: %d: %+v", hosts, i, e)
			}
		}
	}
}

// P25.6: as many links as there may be beside a VIF: what goes to all comes into each router, and ends there.
func TestFrameToAllRouters(t *testing.T) {
	rows := []api.Row{sw("s"), vif("a", "s", 0x0a, addr(10, 0, 0, 1)), bind("a", 0)}
	for i := range uint32(api.MaxPorts - 1) {
		r := fmt.Sprint("r", i)
		rows = append(rows, router(r), routerPort(r, r, 0x100+uint64(i), addr(10, 0, 0, 2)+i, 24), link(r, "s", r))
	}
	n := newBoth(t, 8, rows...)
	n.gives(t, "to all", "a", udp(0x0a, everybody, addr(10, 0, 0, 1), addr(10, 0, 0, 77), 7, 8), 0)
	if want := 8 + 2*(api.MaxPorts-1); n.Goes() != want {
		t.Errorf("%d goes, not %d", n.Goes(), want)
	}
	ping := icmp(0x0a, 0x100, addr(10, 0, 0, 1), addr(10, 0, 0, 2), 8, 0)
	pong, _ := packet.Echo(ping)
	n.gives(t, "to one", "a", ping, 0, out{"a", pong})
}

// P7 of the whole: another network beside one, with the same addresses, on the same hosts: neither tells of the other.
func TestBeside(t *testing.T) {
	one, two := newBoth(t, 8, campus()...), newBoth(t, 8, campus()...)
	beside := []api.Row{
		sw("x"), sw("y"), router("z"), vif("xa", "x", 0x0a, addr(10, 0, 1, 1)), vif("xb", "x", 0x0b, addr(10, 0, 1, 2)), vif("yc", "y", 0x0c, addr(10, 0, 2, 1)),
		routerPort("z-x", "z", 0x51, addr(10, 0, 1, 254), 24), routerPort("z-y", "z", 0x52, addr(10, 0, 2, 254), 24), link("xl", "x", "z-x"), link("yl", "y", "z-y"),
		bind("xa", 1), bind("xb", 0), bind("yc", 2), acl("x", true, 1, "udp", api.AclRelated), acl("y", false, 1, "ip4", api.AclDrop),
	}
	two.change(t, adds(beside...)...)
	for _, p := range []api.Packet{
		plain(0x0a, 0x0b), plain(0x0a, everybody), udp(0x0a, 0x51, addr(10, 0, 1, 1), addr(10, 0, 2, 1), 7, 8), udp(0x0a, 0x0b, addr(10, 0, 1, 1), addr(10, 0, 1, 2), 7, 8),
		asks(0x0a, addr(10, 0, 1, 1), addr(10, 0, 2, 1)), icmp(0x0a, 0x51, addr(10, 0, 1, 1), addr(10, 0, 2, 254), 8, 0), withTtl(udp(0x0a, 0x51, addr(10, 0, 1, 1), addr(10, 0, 2, 1), 7, 8), 1),
	} {
		want, got := one.inject(t, "a", printed(t, p)), two.inject(t, "a", printed(t, p))
		if !slices.Equal(got, want) || len(got) == 0 {
			t.Errorf("%s\nnot %s", tell(got), tell(want))
		}
		for _, e := range two.inject(t, "xa", printed(t, p)) {
			if !strings.HasPrefix(e.Port, "x") && !strings.HasPrefix(e.Port, "y") {
				t.Errorf("from xa to %s", e.Port)
			}
		}
	}
}

// P2 of the whole: a tunnel's packet that comes in at a port is a packet like others: it goes where the network sends it.
func TestTunnelWithin(t *testing.T) {
	n := newBoth(t, 8, campus()...)
	n.gives(t, "a frame", "a", plain(0x0a, 0x0b), 1, out{"b", plain(0x0a, 0x0b)})
	x, e := geneve.Decap([]byte(n.Wires()[0].Packet))
	if e != api.OK {
		t.Fatal(e)
	}
	p := udp(0x0c, 0x0d, x.Src, x.Dst, x.Sport, api.GenevePort)
	p.L4.Data = n.Wires()[0].Packet[28:]
	n.gives(t, "a tunnel's packet, to d", "c", p, 1, out{"d", p})
	toRouter := between(p, 0x0c, 0x52)
	told, _ := packet.Error(toRouter, 0x52, addr(10, 0, 2, 254), 3, 0)
	n.gives(t, "to the router", "c", toRouter, 0, out{"c", told})
}

// P6 of the whole: bytes that are no frame change nothing.
func TestNoFrame(t *testing.T) {
	n := newBoth(t, 8, lan()...)
	whole := printed(t, udp(0x0a, 0x0b, 1, 2, 7, 8))
	n.inject(t, "a", whole)
	rows, conns := n.Rows(), n.Conns("a")
	for size := range len(whole) {
		f := n.Fork()
		cut := whole[:size:size]
		if _, e := packet.Parse(cut); e == api.OK {
			continue
		}
		if got, e := f.Inject("a", cut); len(got) != 0 || e != api.OK || len(f.Wires()) != 0 || f.Goes() != 0 {
			t.Errorf("%d bytes: %s, %d", size, tell(got), e)
		}
		if !slices.Equal(f.Conns("a"), conns) || len(f.Rows()) != len(rows) {
			t.Errorf("%d bytes: %+v", size, f.Conns("a"))
		}
	}
}
