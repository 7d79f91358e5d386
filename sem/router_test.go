package sem_test

import (
	"fmt"
	"slices"
	"testing"

	"skein/api"
	"skein/packet"
	"skein/sem"
)

var (
	ipA, ipB, ipC = addr(10, 0, 0, 1), addr(10, 0, 0, 2), addr(10, 0, 1, 1)
	ipRS, ipRT    = addr(10, 0, 0, 254), addr(10, 0, 1, 254)
)

// town is the switches s (a, b) and t (c, and d, which is not bound) with the router r between them, which has a port
// without a link too, and the router q beside r in s.
func town() []api.Row {
	return []api.Row{
		sw("s"), sw("t"), router("r"), router("q"),
		vif("a", "s", 0x0a, ipA), vif("b", "s", 0x0b, ipB), vif("c", "t", 0x0c, ipC), vif("d", "t", 0x0d, addr(10, 0, 1, 2)),
		bind("a", 0), bind("b", 1), bind("c", 2),
		link("l", "s", "r-s"), link("m", "s", "q-s"), link("n", "t", "r-t"),
		routerPort("r-s", "r", 0x51, ipRS, 24), routerPort("r-t", "r", 0x52, ipRT, 24), routerPort("r-x", "r", 0x53, addr(10, 0, 2, 254), 24),
		routerPort("q-s", "q", 0x61, addr(10, 0, 0, 253), 24),
		route("r", addr(99, 0, 0, 0), 8, addr(10, 0, 0, 253), "r-s"), route("r", addr(98, 0, 0, 0), 8, addr(10, 0, 2, 1), "r-x"), route("r", addr(97, 0, 0, 0), 8, addr(10, 0, 1, 77), "r-t"),
		route("r", addr(10, 0, 1, 128), 25, ipB, "r-s"), route("r", addr(10, 0, 0, 0), 24, ipC, "r-t"),
		route("q", addr(10, 0, 1, 0), 24, ipRS, "q-s"),
	}
}

// routed is a packet that routers have sent on, the last one from a Mac to a Mac.
func routed(p api.Packet, src, dst uint64, hops int) api.Packet {
	p.Ip.Ttl -= hops
	return between(p, src, dst)
}

// failed is what a router's port tells of a packet.
func failed(t *testing.T, p api.Packet, mac uint64, ip uint32, kind int) api.Packet {
	t.Helper()
	answer, ok := packet.Error(p, mac, ip, kind, 0)
	if !ok {
		t.Fatal("nothing is told")
	}
	return answer
}

// P24.2: what a router takes, and where it sends packets.
func TestRouter(t *testing.T) {
	n := newPair(t, 4, town()...)
	to := func(ip uint32) api.Packet { return udp(0x0a, 0x51, ipA, ip, 5, 6) }
	for _, x := range []struct {
		what string
		p    api.Packet
		want []out
	}{
		{"through", to(ipC), []out{{"c", routed(to(ipC), 0x52, 0x0c, 1)}}},
		{"back into the same switch", to(ipB), []out{{"b", routed(to(ipB), 0x51, 0x0b, 1)}}},
		{"back to where it came from", to(ipA), []out{{"a", routed(to(ipA), 0x51, 0x0a, 1)}}},
		{"a port's prefix is ahead of a route's", to(ipB), []out{{"b", routed(to(ipB), 0x51, 0x0b, 1)}}},
		{"a longer prefix", to(addr(10, 0, 1, 200)), []out{{"b", routed(to(addr(10, 0, 1, 200)), 0x51, 0x0b, 1)}}},
		{"to one that is not bound", to(addr(10, 0, 1, 2)), nil},
		{"no neighbour", to(addr(10, 0, 1, 3)), nil},
		{"no neighbour by a route", to(addr(97, 1, 1, 1)), nil},
		{"no link", to(addr(10, 0, 2, 1)), nil},
		{"no link by a route", to(addr(98, 1, 1, 1)), nil},
		{"no way", to(addr(11, 0, 0, 1)), []out{{"a", failed(t, to(addr(11, 0, 0, 1)), 0x51, ipRS, 3)}}},
		{"to the router beside", between(to(ipC), 0x0a, 0x61), []out{{"c", routed(between(to(ipC), 0x0a, 0x61), 0x52, 0x0c, 2)}}},
		{"no way at the next one", to(addr(99, 0, 0, 1)), []out{{"a", routed(failed(t, routed(to(addr(99, 0, 0, 1)), 0x51, 0x61, 1), 0x61, addr(10, 0, 0, 253), 3), 0x51, 0x0a, 1)}}},
		{"Ttl 2", withTtl(to(ipC), 2), []out{{"c", withTtl(routed(to(ipC), 0x52, 0x0c, 1), 1)}}},
		{"Ttl 1", withTtl(to(ipC), 1), []out{{"a", failed(t, withTtl(to(ipC), 1), 0x51, ipRS, 11)}}},
		{"Ttl 0", withTtl(to(ipC), 0), []out{{"a", failed(t, withTtl(to(ipC), 0), 0x51, ipRS, 11)}}},
		{"Ttl 255", withTtl(to(ipC), 255), []out{{"c", withTtl(routed(to(ipC), 0x52, 0x0c, 1), 254)}}},
		{"Ttl 1 and no way", withTtl(to(addr(11, 0, 0, 1)), 1), []out{{"a", failed(t, withTtl(to(addr(11, 0, 0, 1)), 1), 0x51, ipRS, 11)}}},
		{"Ttl 1 and no neighbour", withTtl(to(addr(10, 0, 1, 3)), 1), []out{{"a", failed(t, withTtl(to(addr(10, 0, 1, 3)), 1), 0x51, ipRS, 11)}}},
		{"tagged", tagged(to(ipC), 7), nil},
		{"tagged with 0", tagged(to(ipC), 0), nil},
		{"no IPv4", plain(0x0a, 0x51), nil},
		{"an ARP answer", arpTo(0x0a, 0x51), nil},
		{"to all", between(to(ipC), 0x0a, everybody), []out{{"b", between(to(ipC), 0x0a, everybody)}}},
		{"a fragment", fragment(0x0a, 0x51, ipA, ipC), []out{{"c", routed(fragment(0x0a, 0x51, ipA, ipC), 0x52, 0x0c, 1)}}},
		{"a fragment with Ttl 1", withTtl(fragment(0x0a, 0x51, ipA, ipC), 1), nil},
		{"a fragment without a way", fragment(0x0a, 0x51, ipA, addr(11, 0, 0, 1)), nil},
		{"a fault of a fault", withTtl(icmp(0x0a, 0x51, ipA, ipC, 3, 1), 1), nil},
		{"from 0", withTtl(udp(0x0a, 0x51, 0, ipC, 5, 6), 1), nil},
		{"from another one's Ip", withTtl(udp(0x0a, 0x51, ipC, ipC, 5, 6), 1), []out{{"a", failed(t, withTtl(udp(0x0a, 0x51, ipC, ipC, 5, 6), 1), 0x51, ipRS, 11)}}},
		{"from another one's Mac", withTtl(udp(0x0b, 0x51, ipA, ipC, 5, 6), 1), []out{{"b", failed(t, withTtl(udp(0x0b, 0x51, ipA, ipC, 5, 6), 1), 0x51, ipRS, 11)}}},
		{"from the link's own Mac", withTtl(udp(0x51, 0x51, ipA, ipC, 5, 6), 1), nil},
		{"from the router beside", withTtl(udp(0x61, 0x51, ipC, ipB, 5, 6), 1), []out{{"c", routed(failed(t, withTtl(udp(0x61, 0x51, ipC, ipB, 5, 6), 1), 0x51, ipRS, 11), 0x52, 0x0c, 2)}}},
	} {
		n.gives(t, x.what, "a", x.p, x.want...)
	}
	n.gives(t, "the other way", "c", udp(0x0c, 0x52, ipC, ipA, 5, 6), out{"a", routed(udp(0x0c, 0x52, ipC, ipA, 5, 6), 0x51, 0x0a, 1)})
}

func arpTo(src, dst uint64) api.Packet {
	p := asks(src, 1, 99)
	p.Eth.Dst, p.Arp.Op = dst, 2
	return p
}

// P24.2: to a router's own addresses: echos are answered, of whichever port; others are dropped.
func TestOwnAddress(t *testing.T) {
	n := newPair(t, 4, town()...)
	for what, ip := range map[string]uint32{"the port's": ipRS, "another port's": ipRT, "a port's without a link": addr(10, 0, 2, 254)} {
		for _, ttl := range []int{0, 1, 2, 255} {
			ping := withTtl(icmp(0x0a, 0x51, ipA, ip, 8, 0), ttl)
			pong, _ := packet.Echo(ping)
			n.gives(t, what, "a", ping, out{"a", pong})
			if pong.Ip.Ttl != 64 {
				t.Errorf("Ttl %d", pong.Ip.Ttl)
			}
		}
		tag := tagged(icmp(0x0a, 0x51, ipA, ip, 8, 0), 3)
		for _, p := range []api.Packet{
			icmp(0x0a, 0x51, ipA, ip, 0, 0), icmp(0x0a, 0x51, ipA, ip, 8, 1), icmp(0x0a, 0x51, ipA, ip, 3, 0), udp(0x0a, 0x51, ipA, ip, 5, 6), tcp(0x0a, 0x51, ipA, ip, 5, 6),
			withTtl(udp(0x0a, 0x51, ipA, ip, 5, 6), 1), fragment(0x0a, 0x51, ipA, ip), tag,
		} {
			n.gives(t, what+", no echo", "a", p)
		}
	}
	// Another router's address is no own one: the echo is sent there, and answered there.
	ping := icmp(0x0a, 0x51, ipA, addr(10, 0, 0, 253), 8, 0)
	pong, _ := packet.Echo(routed(ping, 0x51, 0x61, 1))
	n.gives(t, "another router's", "a", ping, out{"a", routed(pong, 0x51, 0x0a, 1)})
	// By way of another router it is answered to that one.
	ping = icmp(0x0a, 0x61, ipA, ipRS, 8, 0)
	pong, _ = packet.Echo(routed(ping, 0x61, 0x51, 1))
	n.gives(t, "by way of another router", "a", ping, out{"a", routed(pong, 0x61, 0x0a, 1)})
}

// P24.2: NATs, at the port where packets come in and at that where they go out.
func TestNat(t *testing.T) {
	ext, ext2 := addr(1, 1, 1, 1), addr(10, 0, 1, 88)
	n := newPair(t, 4, append(town(), nat("r", "r-t", ext, ipA), nat("r", "r-t", ext2, ipB), nat("r", "r-x", ext, ipB), nat("q", "q-s", addr(1, 1, 1, 9), ipC))...)
	p := udp(0x0a, 0x51, ipA, ipC, 5, 6)
	as := routed(p, 0x52, 0x0c, 1)
	as.Ip.Src = ext
	n.gives(t, "out", "a", p, out{"c", as})
	answer := udp(0x0c, 0x52, ipC, ext, 6, 5)
	is := routed(answer, 0x51, 0x0a, 1)
	is.Ip.Dst = ipA
	n.gives(t, "in", "c", answer, out{"a", is})
	p = udp(0x0b, 0x51, ipB, ipC, 5, 6)
	as = routed(p, 0x52, 0x0c, 1)
	as.Ip.Src = ext2
	n.gives(t, "another one out", "b", p, out{"c", as})
	// At another port it is no NAT.
	p = udp(0x0b, 0x51, ipB, ext, 5, 6)
	n.gives(t, "in at another port", "b", p, out{"b", failed(t, p, 0x51, ipRS, 3)})
	p = udp(0x0a, 0x51, ipA, ipB, 5, 6)
	n.gives(t, "out at another port", "a", p, out{"b", routed(p, 0x51, 0x0b, 1)})
	// In and out at one port: both.
	p = udp(0x0c, 0x52, ipA, ext2, 5, 6)
	in := routed(p, 0x51, 0x0b, 1)
	in.Ip.Dst = ipB
	n.gives(t, "from an internal one, in", "c", p, out{"b", in})
	// What is told quotes the address that it has behind the NAT.
	p = withTtl(udp(0x0c, 0x52, ipC, ext, 5, 6), 1)
	inside := p
	inside.Ip.Dst = ipA
	n.gives(t, "time is up", "c", p, out{"c", failed(t, inside, 0x52, ipRT, 11)})
	// An internal address may be the router's own: that is not looked at again.
	n.change(t, adds(nat("r", "r-s", addr(2, 2, 2, 2), ipRS), nat("r", "r-s", addr(2, 2, 2, 3), addr(11, 0, 0, 1)))...)
	n.gives(t, "its own", "a", icmp(0x0a, 0x51, ipA, addr(2, 2, 2, 2), 8, 0))
	p = udp(0x0a, 0x51, ipA, addr(2, 2, 2, 3), 5, 6)
	inside = p
	inside.Ip.Dst = addr(11, 0, 0, 1)
	n.gives(t, "no way behind the NAT", "a", p, out{"a", failed(t, inside, 0x51, ipRS, 3)})
	n.gives(t, "an echo of a NAT's address", "c", icmp(0x0c, 0x52, ipC, ext, 8, 0), out{"a", routed(icmp(0x0c, 0x52, ipC, ipA, 8, 0), 0x51, 0x0a, 1)})
}

// P24.2: what comes from a router goes out by the rules and connections of the switch; what a switch does to frames from
// its VIFs is not done to it.
func TestFromRouter(t *testing.T) {
	n := newPair(t, 4, append(town(), acl("t", true, 5, "inport == n && outport == c && udp", api.AclRelated), acl("t", true, 4, "tcp", api.AclDrop), acl("t", false, 9, "1", api.AclDrop),
		vip("t", api.ProtoTcp, addr(10, 0, 1, 99), 80, api.Way{Ip: ipC, Port: 80}), flaggedDhcp("e", "t", 0x0e), bind("e", 3))...)
	p := udp(0x0a, 0x51, ipA, ipC, 5, 6)
	n.gives(t, "remembered", "a", p, out{"c", routed(p, 0x52, 0x0c, 1)})
	if !slices.Equal(n.conns("c"), [][2]uint32{{ipA, ipC}}) || len(n.conns("a")) != 0 {
		t.Errorf("%v, %v", n.conns("c"), n.conns("a"))
	}
	answer := udp(0x0c, 0x52, ipC, ipA, 6, 5)
	n.gives(t, "an answer", "c", answer, out{"a", routed(answer, 0x51, 0x0a, 1)})
	n.gives(t, "not asked for", "c", udp(0x0c, 0x52, ipC, ipA, 7, 5))
	n.gives(t, "dropped to c", "a", tcp(0x0a, 0x51, ipA, ipC, 5, 6))
	// A VIP is asked by VIFs alone.
	n.gives(t, "a VIP beyond a router", "a", tcp(0x0a, 0x51, ipA, addr(10, 0, 1, 99), 5, 80))
	// What is told by a router is looked at, too.
	n.change(t, adds(acl("s", true, 1, "icmp && inport == l && outport == a", api.AclDrop))...)
	n.gives(t, "a fault", "a", withTtl(p, 1))
	n.gives(t, "an answer", "a", icmp(0x0a, 0x51, ipA, ipRS, 8, 0))
	ping := icmp(0x0a, 0x61, ipA, addr(10, 0, 0, 253), 8, 0)
	pong, _ := packet.Echo(ping)
	n.gives(t, "another router's", "a", ping, out{"a", pong})
}

func flaggedDhcp(name, owner string, mac uint64) api.Row {
	return flagged(vif(name, owner, mac, uint32(mac)), false, true)
}

// chain is so many routers in a row, from the switch s0, with a, to the last switch, with z. They send to the next one what
// they know no other way for, and back what is for 10.0.0.0/24.
func chain(count int) []api.Row {
	rows := []api.Row{sw("s0"), vif("a", "s0", 0x0a, ipA), bind("a", 0), bind("z", 1)}
	for i := range count {
		left, right := fmt.Sprint("s", i), fmt.Sprint("s", i+1)
		name, l, r := fmt.Sprint("r", i), fmt.Sprint("l", i), fmt.Sprint("m", i)
		net := func(n int, last uint32) uint32 { return addr(10, 0, uint32(n), last) }
		rows = append(rows, sw(right), router(name),
			routerPort(l, name, uint64(0x100+i), net(i, 200), 24), routerPort(r, name, uint64(0x200+i), net(i+1, 201), 24),
			link("x"+l, left, l), link("x"+r, right, r))
		if i+1 < count {
			rows = append(rows, route(name, 0, 0, net(i+1, 200), r))
		}
		if i > 0 {
			rows = append(rows, route(name, addr(10, 0, 0, 0), 24, net(i, 201), l))
		}
	}
	return append(rows, vif("z", fmt.Sprint("s", count), 0x0f, addr(10, 0, uint32(count), 9)))
}

// P24.2: a packet passes MaxHops routers, and no more.
func TestChain(t *testing.T) {
	for count, may := range map[int]bool{1: true, 2: true, 15: true, 16: true, 17: false, 20: false} {
		n := newPair(t, 4, chain(count)...)
		p := withTtl(udp(0x0a, 0x100, ipA, addr(10, 0, uint32(count), 9), 5, 6), 255)
		var want []out
		if may {
			want = []out{{"z", routed(p, uint64(0x200+count-1), 0x0f, count)}}
		}
		n.gives(t, fmt.Sprint(count, " routers"), "a", p, want...)
	}
}

// P24.2: an answer has passed the routers that the packet passed: it comes back from the ninth router, whose answer passes
// eight more, but not from the tenth.
func TestAnswersCount(t *testing.T) {
	n := newPair(t, 4, chain(16)...)
	for i := range 16 {
		p := withTtl(udp(0x0a, 0x100, ipA, addr(10, 0, 16, 9), 5, 6), i+1)
		var want []out
		if 2*i <= api.MaxHops {
			told := failed(t, between(withTtl(p, 1), sourceAt(i), uint64(0x100+i)), uint64(0x100+i), addr(10, 0, uint32(i), 200), 11)
			if i > 0 {
				told = routed(told, 0x100, 0x0a, i)
			}
			want = []out{{"a", told}}
		}
		n.gives(t, fmt.Sprint("at the router ", i), "a", p, want...)
	}
	for i := range 16 {
		ping := withTtl(icmp(0x0a, 0x100, ipA, addr(10, 0, uint32(i), 200), 8, 0), 255)
		if got := n.inject(t, "a", printed(t, ping)); (len(got) == 1) != (2*i <= api.MaxHops) {
			t.Errorf("an echo of the router %d: %s", i, tell(got))
		}
	}
}

// sourceAt is the Mac that sends what comes in at a router of a chain.
func sourceAt(i int) uint64 {
	if i == 0 {
		return 0x0a
	}
	return uint64(0x200 + i - 1)
}

// P24.2: two routers that send a packet to one another.
func TestLoop(t *testing.T) {
	n := newPair(t, 4, sw("s"), vif("a", "s", 0x0a, 5), bind("a", 0), router("r"), router("q"), link("l", "s", "r1"), link("m", "s", "q1"), routerPort("r1", "r", 1, 1, 32), routerPort("q1", "q", 2, 2, 32),
		route("r", 0, 0, 2, "r1"), route("q", 0, 0, 1, "q1"), route("r", 5, 32, 5, "r1"), route("q", 5, 32, 5, "q1"))
	for ttl, want := range map[int]int{255: 0, 17: 0, 16: 1, 15: 1, 2: 1, 1: 1, 0: 1} {
		got := n.inject(t, "a", printed(t, withTtl(udp(0x0a, 1, 5, 77, 1, 2), ttl)))
		if len(got) != want {
			t.Errorf("Ttl %d: %s", ttl, tell(got))
		}
	}
}

// P24.3: no frame is emitted where no path leads; where one does, it leads there.
func TestApartNetworks(t *testing.T) {
	other := []api.Row{sw("u"), vif("e", "u", 0x0a, ipA), vif("f", "u", 0x0c, ipC), bind("e", 0), bind("f", 1), router("v"), routerPort("v-u", "v", 0x51, ipRS, 24), link("o", "u", "v-u"), route("v", 0, 0, ipC, "v-u")}
	n := newPair(t, 4, append(town(), other...)...)
	p := udp(0x0a, 0x51, ipA, ipC, 5, 6)
	n.gives(t, "in one", "a", p, out{"c", routed(p, 0x52, 0x0c, 1)})
	n.gives(t, "in the other one", "e", p, out{"f", routed(p, 0x51, 0x0c, 1)})
	// A link more, and there is one.
	n.change(t, append(dels(route("v", 0, 0, 0, "")), adds(routerPort("v-t", "v", 0x71, addr(10, 0, 1, 253), 24), link("w", "t", "v-t"))...)...)
	n.gives(t, "linked", "e", p, out{"c", routed(p, 0x71, 0x0c, 1)})
	n.change(t, dels(link("w", "", ""))...)
	n.gives(t, "linked no more", "e", p)
}

// The chapter's example, and those of the whole that are a World's.
func TestExamples(t *testing.T) {
	n := newPair(t, 4, sw("s"), vif("a", "s", 0x0a, 1), vif("b", "s", 0x0b, 2), bind("a", 0), bind("b", 1))
	n.gives(t, "a broadcast", "a", plain(0x0a, everybody), out{"b", plain(0x0a, everybody)})
	w, _ := sem.New(4)
	if e, _ := w.Apply(adds(sw("s"), vif("a", "s", 0x0a, 1))); e != api.OK {
		t.Fatal(e)
	}
	if e, at := w.Apply(adds(vif("b", "s", 0x0a, 2))); e != api.ErrClash || at != 1 || len(w.Rows()) != 2 {
		t.Errorf("two with one Mac: %d at %d", e, at)
	}
}
