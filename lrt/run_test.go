package lrt_test

import (
	"fmt"
	"testing"

	"skein/api"
	"skein/ct"
	"skein/dpath"
	"skein/lrt"
	"skein/packet"
)

const (
	keyS, keyT, keyX = 0xfedc, 0x14, 0x15 // of r's ports
	macS, macT, macX = 0x020000000051, 0x020000000052, 0x020000000053
	macA             = 0x02000000000a
)

// pipeline is the routers of net, and what tells where packets come back into switches: they come out at port 1 in s, at
// port 2 in t.
func pipeline(t *testing.T) (*dpath.Program, *ct.Table) {
	t.Helper()
	l := append(lrt.Compile(net(), netKeys(), "r"), lrt.Compile(net(), netKeys(), "q")...)
	for port, dp := range map[int]uint64{1: api.MaxVni, 2: 6} {
		l = append(l, api.Flow{Terms: []api.Term{term(api.Datapath, dp, all24)}, Acts: []api.Act{{Kind: api.ActOutput, Port: port}}})
	}
	p, e := dpath.New(l)
	if e != api.OK {
		t.Fatalf("New: %d", e)
	}
	c, _ := ct.New(8)
	return p, c
}

// at is a state at a port of r, of a packet that has passed 4 routers.
func at(port int, p api.Packet) api.State {
	return api.State{P: p, Dp: 0xabcdef, In: port, Regs: [4]uint32{0, 0, 4, 0}}
}

// udpTo is a packet for a port with that Mac.
func udpTo(mac uint64, from, to uint32, ttl int) api.Packet {
	return api.Packet{Eth: api.Eth{Src: macA, Dst: mac, Type: api.TypeIp}, IsIp: true, Ip: api.Ip{Ttl: ttl, Proto: api.ProtoUdp, Src: from, Dst: to}, L4: api.L4{Kind: api.KindUdp, Sport: 5, Dport: 6}}
}

func pingTo(mac uint64, from, to uint32) api.Packet {
	p := udpTo(mac, from, to, 1)
	p.Ip.Proto, p.L4 = api.ProtoIcmp, api.L4{Kind: api.KindIcmp, Type: 8, Rest: 7, Data: "ping"}
	return p
}

// routed is a packet that a router has sent on.
func routed(p api.Packet, src, dst uint64) api.Packet {
	p.Eth.Src, p.Eth.Dst = src, dst
	p.Ip.Ttl--
	return p
}

// P21.1: what a router does to packets, and into which switch they come back. (Reg2 counts those that it sends on.)
func TestRuns(t *testing.T) {
	run, c := pipeline(t)
	a, far := addr(10, 0, 0, 1), addr(99, 0, 0, 1)
	tagged := udpTo(macT, far, a, 9)
	tagged.Eth.Tagged = true
	arp := api.Packet{Eth: api.Eth{Src: macA, Dst: macS, Type: api.TypeArp}, IsArp: true, Arp: api.Arp{Op: 1, Tpa: addr(10, 0, 0, 254)}}
	other := pingTo(macS, a, addr(10, 0, 0, 254))
	other.L4.Code = 1
	toFar := udpTo(macS, a, far, 9)
	external := udpTo(macT, far, addr(1, 1, 1, 1), 9)
	internal := external
	internal.Ip.Dst = a
	echo := func(p api.Packet) api.Packet { r, _ := packet.Echo(p); return r }
	fails := func(p api.Packet, mac uint64, ip uint32, kind int) api.Packet {
		r, ok := packet.Error(p, mac, ip, kind, 0)
		if !ok {
			t.Errorf("no answer")
		}
		return r
	}
	for _, x := range []struct {
		what  string
		in    int
		p     api.Packet
		out   int // 0: it is dropped
		want  api.Packet
		count uint32
	}{
		{"by the route of all, to a router", keyS, toFar, 1, routed(toFar, macS, 0x020000000061), 5},
		{"to another port's Mac", keyT, toFar, 0, api.Packet{}, 0},
		{"at no port", 99, toFar, 0, api.Packet{}, 0},
		{"with a tag", keyT, tagged, 0, api.Packet{}, 0},
		{"no IPv4", keyS, arp, 0, api.Packet{}, 0},
		{"a ping", keyS, pingTo(macS, a, addr(10, 0, 0, 254)), 1, echo(pingTo(macS, a, addr(10, 0, 0, 254))), 4},
		{"a ping of another port", keyT, pingTo(macT, far, addr(10, 0, 2, 254)), 2, echo(pingTo(macT, far, addr(10, 0, 2, 254))), 4},
		{"a ping, where it is not linked", keyX, pingTo(macX, far, addr(10, 0, 2, 254)), 0, api.Packet{}, 0},
		{"no ping", keyS, other, 0, api.Packet{}, 0},
		{"no ping, to a port's own", keyS, udpTo(macS, a, addr(200, 0, 1, 254), 9), 0, api.Packet{}, 0},
		{"time is up", keyS, udpTo(macS, a, far, 1), 1, fails(udpTo(macS, a, far, 1), macS, addr(10, 0, 0, 254), 11), 4},
		{"time was up", keyT, udpTo(macT, far, a, 0), 2, fails(udpTo(macT, far, a, 0), macT, addr(200, 0, 1, 254), 11), 4},
		{"time is up, where it is not linked", keyX, udpTo(macX, far, a, 1), 0, api.Packet{}, 0},
		{"time enough", keyT, udpTo(macT, far, addr(10, 9, 9, 9), 2), 1, routed(udpTo(macT, far, addr(10, 9, 9, 9), 2), macS, 0x020000000061), 5},
		{"to an external address", keyT, external, 1, routed(internal, macS, 0x020000000061), 5},
		{"to an external address, at another port", keyS, udpTo(macS, a, addr(1, 1, 1, 1), 9), 1, routed(udpTo(macS, a, addr(1, 1, 1, 1), 9), macS, 0x020000000061), 5},
		{"to nobody", keyT, udpTo(macT, far, addr(10, 0, 0, 200), 9), 0, api.Packet{}, 0},
		{"out where it is not linked", keyT, udpTo(macT, far, addr(10, 0, 2, 200), 9), 1, routed(udpTo(macT, far, addr(10, 0, 2, 200), 9), macS, 0x020000000061), 5},
		{"out where it is not linked, by a longer prefix", keyT, udpTo(macT, far, addr(10, 0, 0, 130), 9), 0, api.Packet{}, 0},
	} {
		sent, _, e := run.Run(c, 20, at(x.in, x.p))
		if x.out == 0 {
			if len(sent) != 0 || e != api.OK {
				t.Errorf("%s: %+v, %d", x.what, sent, e)
			}
			continue
		}
		want := api.State{P: x.want, Dp: map[int]int{1: api.MaxVni, 2: 6}[x.out], In: map[int]int{1: 0x12, 2: 0x16}[x.out], Regs: [4]uint32{0, 0, x.count, 0}}
		if len(sent) != 1 || e != api.OK || sent[0].Port != x.out || sent[0].State != want {
			t.Errorf("%s: %+v, %d, not %+v", x.what, sent, e, want)
		}
	}
}

// P21.1: no way: who sent it is told so by the port at which it came in; that answer's source decides nothing.
func TestNoWay(t *testing.T) {
	run, c := pipeline(t)
	p := udpTo(0x020000000061, addr(10, 0, 0, 1), addr(99, 0, 0, 1), 9)
	sent, _, _ := run.Run(c, 20, api.State{P: p, Dp: 0xbbbbbb, In: 0x17})
	want, _ := packet.Error(p, 0x020000000061, addr(10, 0, 0, 253), 3, 0)
	if len(sent) != 1 || sent[0].State.P != want || sent[0].State.In != 0x13 || sent[0].State.Dp != api.MaxVni {
		t.Errorf("%+v", sent)
	}
	p = udpTo(0x020000000061, addr(10, 0, 0, 1), addr(10, 0, 3, 1), 9)
	sent, _, _ = run.Run(c, 20, api.State{P: p, Dp: 0xbbbbbb, In: 0x17})
	if len(sent) != 1 || sent[0].State.P != routed(p, 0x020000000061, macS) {
		t.Errorf("by a route: %+v", sent)
	}
}

// P21.1: addresses are changed at the port by which a packet goes out, for the external one of that port.
func TestNatOut(t *testing.T) {
	rows := append(net(), vif("c", "t", 0x0c, addr(200, 0, 0, 1)), nat("r", "r-s", addr(10, 0, 0, 77), addr(200, 0, 0, 1)))
	k := netKeys()
	k.Ports = append(k.Ports[:2:2], append([]api.Key{{Name: "c", Num: 0x20}}, k.Ports[2:]...)...)
	l := compiled(t, rows, k, "r")
	run, e := dpath.New(append(l, api.Flow{Table: 0, Acts: []api.Act{{Kind: api.ActOutput}}}))
	if e != api.OK {
		t.Fatalf("New: %d", e)
	}
	c, _ := ct.New(1)
	for _, x := range []struct {
		what         string
		in           int
		mac          uint64
		from, to     uint32
		asFrom, asTo uint32
	}{
		{"out", keyS, macS, addr(10, 0, 0, 1), addr(200, 0, 0, 1), addr(1, 1, 1, 1), addr(200, 0, 0, 1)},
		{"out, another one", keyS, macS, addr(10, 9, 9, 9), addr(200, 0, 0, 1), addr(1, 1, 1, 2), addr(200, 0, 0, 1)},
		{"out, without a NAT", keyS, macS, addr(10, 0, 0, 9), addr(200, 0, 0, 1), addr(10, 0, 0, 9), addr(200, 0, 0, 1)},
		{"in by one, out by another one", keyT, macT, addr(200, 0, 0, 1), addr(1, 1, 1, 1), addr(10, 0, 0, 77), addr(10, 0, 0, 1)},
		{"in and out by one", keyT, macT, addr(10, 0, 0, 1), addr(200, 0, 0, 1), addr(1, 1, 1, 1), addr(200, 0, 0, 1)},
	} {
		sent, _, _ := run.Run(c, 20, at(x.in, udpTo(x.mac, x.from, x.to, 9)))
		if len(sent) != 1 || sent[0].State.P.Ip.Src != x.asFrom || sent[0].State.P.Ip.Dst != x.asTo {
			t.Errorf("%s: %+v", x.what, sent)
		}
	}
}

// P21.1: a packet passes MaxHops routers at most: here two that send it to one another.
func TestHops(t *testing.T) {
	rows := []api.Row{sw("s"), router("r"), router("q"), link("l", "s", "r1"), link("m", "s", "q1"), routerPort("r1", "r", 1, 1, 32), routerPort("q1", "q", 2, 2, 32),
		route("r", 0, 0, 2, "r1"), route("q", 0, 0, 1, "q1")}
	k := keysOf(t, rows)
	l := append(compiled(t, rows, k, "r"), compiled(t, rows, k, "q")...)
	// A switch that has what is for a router go into that one, and a copy of all come out.
	for mac, dp := range map[uint64]uint64{1: 3, 2: 2} {
		l = append(l, api.Flow{Priority: 1, Terms: []api.Term{term(api.EthDst, mac, all48)}, Acts: []api.Act{{Kind: api.ActOutput}, set(api.Datapath, dp, all24), set(api.InPort, map[uint64]uint64{1: 4, 2: 3}[mac], all16), goTo(20)}})
	}
	run, e := dpath.New(l)
	if e != api.OK {
		t.Fatalf("New: %d", e)
	}
	c, _ := ct.New(1)
	// The answer to one whose time is up is in the switch once more, and goes on as that one would.
	for ttl, want := range map[int]int{255: 17, 18: 17, 17: 18, 16: 18, 3: 18} {
		sent, _, e := run.Run(c, 0, api.State{P: udpTo(1, 7, 8, ttl)})
		got := fmt.Sprint(len(sent), e)
		if got != fmt.Sprint(want, api.OK) {
			t.Errorf("Ttl %d: %s times in the switch, not %d", ttl, got, want)
		}
	}
}
