package lsw_test

import (
	"slices"
	"testing"

	"skein/api"
	"skein/ct"
	"skein/dhcp"
	"skein/dpath"
	"skein/keys"
	"skein/lsw"
)

const (
	macA, macB, macR = 0x02000000000a, 0x02000000000b, 0x020000000051
	keyA, keyB, keyL = 0x11, 65535, 0x12
	ipA, ipB, ipR    = 0x0a000001, 0x0a000002, 0x0a0000fe
	everybody        = 1<<48 - 1
	atRouter         = 1 // the port at which a frame comes out that a router got
)

// host is a pipeline of the switch s in which frames come out at its VIFs, and where a router gets them.
func host(t *testing.T, rows []api.Row) (*dpath.Program, *ct.Table) {
	t.Helper()
	k, e := keys.Update(netKeys(), rows)
	if e != api.OK {
		t.Fatalf("keys: %d", e)
	}
	l := lsw.Compile(rows, k, "s")
	for _, p := range []uint64{keyA, keyB} {
		to := []api.Term{term(api.Datapath, api.MaxVni, all24), term(api.OutPort, p, all16)}
		l = append(l, api.Flow{Table: 9, Priority: 50, Terms: to, Acts: []api.Act{set(api.CtState, 0, 255), set(api.Reg0, 0, all32), goTo(10)}},
			api.Flow{Table: 13, Priority: 50, Terms: to, Acts: []api.Act{{Kind: api.ActOutput, Port: int(p)}}})
	}
	l = append(l, api.Flow{Table: 20, Acts: []api.Act{{Kind: api.ActOutput, Port: atRouter}}})
	p, e := dpath.New(l)
	if e != api.OK {
		t.Fatalf("New: %d", e)
	}
	c, _ := ct.New(8)
	return p, c
}

// comesOut asks at which ports a frame comes out, and answers what does.
func comesOut(t *testing.T, what string, p *dpath.Program, c *ct.Table, from int, frame api.Packet, ports ...int) []api.Packet {
	t.Helper()
	sent, _, e := p.Run(c, 0, api.State{P: frame, Dp: api.MaxVni, In: from})
	if e != api.OK {
		t.Errorf("%s: %d", what, e)
	}
	var at []int
	var out []api.Packet
	for _, s := range sent {
		at = append(at, s.Port)
		out = append(out, s.State.P)
		if clean := (api.State{P: s.State.P, Dp: 0xabcdef, In: 0xfedc, Orig: s.State.Orig}); s.Port == atRouter && s.State != clean {
			t.Errorf("%s: a router knows %+v", what, s.State)
		}
	}
	if !slices.Equal(at, ports) {
		t.Fatalf("%s: at %v, not %v", what, at, ports)
	}
	return out
}

func udpFrame(src, dst uint64, from, to uint32, sport, dport int) api.Packet {
	return api.Packet{Eth: api.Eth{Src: src, Dst: dst, Type: api.TypeIp}, IsIp: true, Ip: api.Ip{Ttl: 9, Proto: api.ProtoUdp, Src: from, Dst: to}, L4: api.L4{Kind: api.KindUdp, Sport: sport, Dport: dport}}
}

func arpFrame(src, sha uint64, spa, tpa uint32) api.Packet {
	return api.Packet{Eth: api.Eth{Src: src, Dst: everybody, Type: api.TypeArp}, IsArp: true, Arp: api.Arp{Op: 1, Sha: sha, Spa: spa, Tpa: tpa}}
}

func otherFrame(src, dst uint64) api.Packet {
	return api.Packet{Eth: api.Eth{Src: src, Dst: dst, Type: 0x86dd}, Body: "body"}
}

// bare is net without ACLs and VIPs.
func bare() []api.Row {
	return slices.DeleteFunc(net(), func(r api.Row) bool { return r.Kind == api.RowAcl || r.Kind == api.RowVip })
}

// P20.1: where frames go: to a VIF, a link, all others, nobody.
func TestWhereFramesGo(t *testing.T) {
	p, c := host(t, bare())
	for _, x := range []struct {
		what     string
		from     int
		src, dst uint64
		ports    []int
	}{
		{"to a VIF", keyB, macB, macA, []int{keyA}},
		{"to a link", keyB, macB, macR, []int{atRouter}},
		{"to itself", keyB, macB, macB, nil},
		{"to nobody", keyB, macB, 5, nil},
		{"to everybody", keyB, macB, everybody, []int{keyA, atRouter}},
		{"to many", keyA, macA, 0x010000000000, []int{keyB, atRouter}},
		{"from a link to many", keyL, macR, everybody, []int{keyA, keyB}},
		{"from a link to a VIF", keyL, 7, macB, []int{keyB}},
		{"from a link to itself", keyL, macR, macR, nil},
		{"from many", keyB, 1 << 40, macA, nil},
		{"from many, at a link", keyL, 1 << 40, macA, nil},
		{"from anybody, without security", keyB, 5, macA, []int{keyA}},
		{"from another, with security", keyA, macB, macB, nil},
		{"at no port", 99, macB, macA, nil},
	} {
		for _, got := range comesOut(t, x.what, p, c, x.from, otherFrame(x.src, x.dst), x.ports...) {
			if got != otherFrame(x.src, x.dst) {
				t.Errorf("%s: %+v", x.what, got)
			}
		}
	}
	s := api.State{P: otherFrame(macB, macA), Dp: 6, In: keyB}
	if sent, _, _ := p.Run(c, 0, s); len(sent) != 0 {
		t.Errorf("in another switch: %+v", sent)
	}
}

// P20.1: what port security lets through.
func TestSecurity(t *testing.T) {
	p, c := host(t, bare())
	tagged := udpFrame(macA, macB, ipA, ipB, 1, 2)
	tagged.Eth.Tagged, tagged.Eth.Tag = true, 5
	for _, x := range []struct {
		what  string
		frame api.Packet
		ports []int
	}{
		{"its own", udpFrame(macA, macB, ipA, ipB, 1, 2), []int{keyB}},
		{"its own, with a tag", tagged, []int{keyB}},
		{"another Ip", udpFrame(macA, macB, ipB, ipB, 1, 2), nil},
		{"another Mac", udpFrame(macB, macB, ipA, ipB, 1, 2), nil},
		{"a request for a lease", udpFrame(macA, macB, 0, all32, 68, 67), nil}, // it is answered, or dropped
		{"no request for a lease", udpFrame(macA, macB, 0, all32, 68, 68), nil},
		{"ARP, its own", arpFrame(macA, macA, ipA, 77), []int{keyB, atRouter}},
		{"ARP, another Sha", arpFrame(macA, macB, ipA, 77), nil},
		{"ARP, another Spa", arpFrame(macA, macA, ipB, 77), nil},
		{"ARP, another Mac", arpFrame(macB, macA, ipA, 77), nil},
		{"ARP for itself", arpFrame(macA, macA, ipA, ipA), []int{keyB, atRouter}},
	} {
		comesOut(t, x.what, p, c, keyA, x.frame, x.ports...)
	}
	comesOut(t, "without security", p, c, keyB, udpFrame(5, macA, 6, 7, 1, 2), keyA)
	comesOut(t, "without security, ARP", p, c, keyB, arpFrame(5, 6, 7, 77), keyA, atRouter)
}

// P20.1: requests that the switch answers itself.
func TestArpAnswers(t *testing.T) {
	p, c := host(t, slices.DeleteFunc(net(), func(r api.Row) bool { return r.Kind == api.RowAcl }))
	for tpa, mac := range map[uint32]uint64{ipB: macB, ipR: macR, addr(10, 0, 0, 98): macA, addr(10, 0, 0, 99): macB} {
		got := comesOut(t, "a request", p, c, keyA, arpFrame(macA, macA, ipA, tpa), keyA)[0]
		want := api.Packet{Eth: api.Eth{Src: mac, Dst: macA, Type: api.TypeArp}, IsArp: true, Arp: api.Arp{Op: 2, Sha: mac, Spa: tpa, Tha: macA, Tpa: ipA}}
		if got != want {
			t.Errorf("%+v", got)
		}
	}
	answer := arpFrame(macA, macA, ipA, ipB)
	answer.Arp.Op, answer.Eth.Dst = 2, macB
	comesOut(t, "no request", p, c, keyA, answer, keyB)
}

// P20.1: a VIF with Flag2 gets its lease, others are heard by others.
func TestDhcpAnswers(t *testing.T) {
	p, c := host(t, bare())
	data, _ := dhcp.Encode(api.Dhcp{Op: 1, Chaddr: macA, Options: []api.Option{{Code: api.OptType, Data: "\x01"}}})
	asks := udpFrame(macA, everybody, 0, all32, 68, 67)
	asks.L4.Data = string(data)
	got := comesOut(t, "a discover", p, c, keyA, asks, keyA)[0]
	m, e := dhcp.Decode([]byte(got.L4.Data))
	mask, _ := dhcp.Find(m, api.OptMask)
	if e != api.OK || m.Yiaddr != ipA || m.Siaddr != ipR || mask != "\xff\xff\xff\x80" || got.Eth.Src != macR || got.Eth.Dst != macA {
		t.Errorf("%+v, %+v", got, m)
	}
	asks.Eth.Src = macB
	comesOut(t, "without Flag2", p, c, keyB, asks, keyA, atRouter)
}

// P20.1: a load balancer's address, and the answers from it.
func TestBalancer(t *testing.T) {
	rows := append(bare(), vip("s", api.ProtoUdp, addr(10, 0, 0, 99), 53, way(ipB, 5353)))
	p, c := host(t, rows)
	asked := udpFrame(macA, macB, ipA, addr(10, 0, 0, 99), 1000, 53)
	for range 2 {
		if got := comesOut(t, "asked", p, c, keyA, asked, keyB)[0]; got != udpFrame(macA, macB, ipA, ipB, 1000, 5353) {
			t.Errorf("%+v", got)
		}
		// The answer is looked up where it comes in, at b, which knows it not, and once more where it goes out.
		if got := comesOut(t, "answered", p, c, keyB, udpFrame(macB, macA, ipB, ipA, 5353, 1000), keyA)[0]; got != udpFrame(macB, macA, addr(10, 0, 0, 99), ipA, 53, 1000) {
			t.Errorf("%+v", got)
		}
		// Behind the first one the destination's Mac plays no part.
		asked.Eth.Dst = macR
	}
	if c.Count(keyA) != 1 || c.Count(keyB) != 0 {
		t.Errorf("%d and %d connections", c.Count(keyA), c.Count(keyB))
	}
	asked.L4.Dport = 54
	comesOut(t, "another port", p, c, keyA, asked, atRouter)
}

// P20.1: rules, by their numbers, from ports and to ports; and what is remembered.
func TestRules(t *testing.T) {
	p, c := host(t, append(bare(), acl("s", false, 5, "inport == a && udp", api.AclDrop), acl("s", false, 6, "udp && tp.dst == 9", api.AclAllow), acl("s", true, 3, "outport == a && ip4", api.AclDrop)))
	comesOut(t, "dropped", p, c, keyA, udpFrame(macA, macB, ipA, ipB, 1, 8))
	comesOut(t, "allowed", p, c, keyA, udpFrame(macA, macB, ipA, ipB, 1, 9), keyB)
	comesOut(t, "dropped, to a", p, c, keyB, udpFrame(macB, macA, ipB, ipA, 9, 1))
	comesOut(t, "no IPv4, to a", p, c, keyB, otherFrame(macB, macA), keyA)

	p, c = host(t, append(bare(), acl("s", true, 9, "outport == b && udp", api.AclRelated), acl("s", false, 3, "inport == b && ip4", api.AclDrop)))
	answer := udpFrame(macB, macA, ipB, ipA, 9, 1)
	comesOut(t, "an answer to nothing", p, c, keyB, answer)
	comesOut(t, "remembered", p, c, keyA, udpFrame(macA, macB, ipA, ipB, 1, 9), keyB)
	comesOut(t, "its answer", p, c, keyB, answer, keyA)
	c.Tick(api.CtLife)
	comesOut(t, "forgotten", p, c, keyB, answer)
}
