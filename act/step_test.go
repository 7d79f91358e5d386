package act_test

import (
	"hash/fnv"
	"math"
	"math/rand"
	"reflect"
	"slices"
	"strings"
	"testing"

	"skein/act"
	"skein/api"
	"skein/dhcp"
	"skein/field"
	"skein/packet"
)

const macA, macB, macC = 0x020000000001, 0x020000000002, 0x0a0000000003

const ipA, ipB, ipC = 0x0a000001, 0x0a000002, 0x0a0000fe

// on is a State with a number of its own in every place beside the packet, of a tagged frame with a pad.
func on(p api.Packet) api.State {
	p.Eth.Dst, p.Eth.Src, p.Eth.Tagged, p.Eth.Tag = macB, macA, true, 7
	if p.IsArp || p.IsIp {
		p.Pad = "pad"
	}
	return api.State{
		P: p, Ct: 11, Dp: 12, In: 13, Out: 14, Regs: [4]uint32{15, 16, 17, 18},
		Orig: api.Tuple{Proto: 19, Src: 20, Dst: 21, Sport: 22, Dport: 23},
	}
}

func ipv4(proto int, x api.L4) api.State {
	return on(api.Packet{
		Eth: api.Eth{Type: api.TypeIp}, IsIp: true, L4: x,
		Ip: api.Ip{Tos: 3, Id: 4, Frag: 0x4000, Ttl: 9, Proto: proto, Src: ipA, Dst: ipB, Options: "\x01\x01\x01\x00"},
	})
}

func udp() api.State {
	return ipv4(api.ProtoUdp, api.L4{Kind: api.KindUdp, Sport: 1000, Dport: 53, NoSum: true, Data: "data"})
}

func tcp() api.State {
	return ipv4(api.ProtoTcp, api.L4{Kind: api.KindTcp, Sport: 1000, Dport: 80, Seq: 5, Ack: 6, Flags: 2, Window: 7, Urgent: 8, Options: "opts", Data: "data"})
}

func icmp(kind, code int) api.State {
	return ipv4(api.ProtoIcmp, api.L4{Kind: api.KindIcmp, Type: kind, Code: code, Rest: 0x12345678, Data: "data"})
}

func fragment() api.State {
	s := ipv4(api.ProtoUdp, api.L4{Data: "datagram"})
	s.P.Ip.Frag = 0x2000
	return s
}

func arp(op int) api.State {
	return on(api.Packet{Eth: api.Eth{Type: api.TypeArp}, IsArp: true, Arp: api.Arp{Op: op, Sha: macA, Spa: ipA, Tha: 0x99, Tpa: ipB}})
}

func other() api.State {
	return on(api.Packet{Eth: api.Eth{Type: 0x86dd}, Body: "body"})
}

// states is one State of each kind, each of a packet that Print takes.
func states() []api.State {
	return []api.State{udp(), tcp(), icmp(8, 0), icmp(0, 0), icmp(3, 1), ipv4(47, api.L4{Data: "gre"}), fragment(), arp(1), arp(2), other(), asks(discover())}
}

func TestStatesPrint(t *testing.T) {
	for _, s := range states() {
		if _, e := packet.Print(s.P); e != api.OK {
			t.Errorf("%+v: %d", s.P, e)
		}
	}
}

// becomes asks what a State is behind an action.
func becomes(t *testing.T, what string, s api.State, a api.Act, want api.State) {
	t.Helper()
	if x, e := act.Step(s, a); x != want || e != api.OK {
		t.Errorf("%s: %+v, %d, not %+v", what, x, e, want)
	}
}

// refuses asks for an error, and nothing beside it.
func refuses(t *testing.T, what string, s api.State, a api.Act, want api.Errno) {
	t.Helper()
	if x, e := act.Step(s, a); x != (api.State{}) || e != want {
		t.Errorf("%s: %+v, %d, not %d", what, x, e, want)
	}
}

// P11.2: actions that may not be, and those that need more than the packet.
func TestStepRefuses(t *testing.T) {
	for _, s := range append(states(), api.State{}) {
		for _, k := range kinds() {
			if !act.Pure(k.right.Kind) {
				refuses(t, k.what, s, k.right, api.ErrAct)
			}
			for _, u := range uses() {
				a := k.right
				u.put(&a)
				if !k.isUsed(u) {
					refuses(t, k.what+" with "+u.name, s, a, api.ErrAct)
				}
			}
		}
		for _, a := range []api.Act{
			{}, {Kind: -1}, {Kind: 15}, {Kind: math.MaxInt}, {Kind: api.ActSet}, {Kind: api.ActMove}, {Kind: api.ActPick},
			{Kind: api.ActSet, Field: api.IpTtl, Value: 3}, {Kind: api.ActSet, Field: api.IpTtl, Value: 3, Mask: 1},
			{Kind: api.ActSet, Field: api.EthType, Value: 1, Mask: 1}, {Kind: api.ActSet, Field: api.IpTtl, Value: 256, Mask: 256},
			{Kind: api.ActMove, From: api.Reg0, Field: api.IpProto}, {Kind: api.ActMove, From: 29, Field: api.Reg0},
			{Kind: api.ActPick, Ways: make([]api.Way, 65)}, {Kind: api.ActPick, Ways: []api.Way{{Port: 65536}}},
			{Kind: api.ActArp, Value: api.MaxMac + 1}, {Kind: api.ActError, Port: 256}, {Kind: api.ActError, From: 1 << 32},
			{Kind: api.ActDhcp, Value: api.MaxMac + 1},
		} {
			refuses(t, "wrong", s, a, api.ErrAct)
		}
	}
}

// P11.2: Set and Move are field's.
func TestStepSetMove(t *testing.T) {
	for _, s := range states() {
		for f := 1; f <= 28; f++ {
			if isFixed(f) {
				continue
			}
			for _, mask := range []uint64{1, ones(f), 0xaaaaaaaaaaaaaaaa & ones(f)} {
				for _, value := range []uint64{0, mask, 0x123456789abc & mask} {
					x, e := act.Step(s, api.Act{Kind: api.ActSet, Field: f, Value: value, Mask: mask})
					want, fault := field.Set(s, f, value, mask)
					if x != want || e != fault || fault != api.OK && fault != api.ErrPrereq {
						t.Errorf("%s: %+v, %d", field.Name(f), x, e)
					}
				}
			}
			for from := 1; from <= 28; from++ {
				x, e := act.Step(s, api.Act{Kind: api.ActMove, From: from, Field: f})
				want, fault := field.Move(s, from, f)
				if x != want || e != fault || fault != api.OK && fault != api.ErrPrereq {
					t.Errorf("%s to %s: %+v, %d", field.Name(from), field.Name(f), x, e)
				}
			}
		}
	}
}

// P11.2: Set and Move by their effects.
func TestStepSetMoveEffects(t *testing.T) {
	want := udp()
	want.P.Eth.Dst = macC
	becomes(t, "Set", udp(), api.Act{Kind: api.ActSet, Field: api.EthDst, Value: macC, Mask: api.MaxMac}, want)
	want = udp()
	want.Regs[0] = 15 | 2 // under the mask alone
	becomes(t, "Set", udp(), api.Act{Kind: api.ActSet, Field: api.Reg0, Value: 2, Mask: 2}, want)
	want.Regs[0] = 15 &^ 3
	becomes(t, "Set", udp(), api.Act{Kind: api.ActSet, Field: api.Reg0, Mask: 3}, want)
	refuses(t, "Set", arp(1), api.Act{Kind: api.ActSet, Field: api.IpTtl, Value: 3, Mask: 255}, api.ErrPrereq)
	want = udp()
	want.Out = 13
	becomes(t, "Move", udp(), api.Act{Kind: api.ActMove, From: api.InPort, Field: api.OutPort}, want)
	want = udp()
	want.Regs[1] = ipB
	becomes(t, "Move", udp(), api.Act{Kind: api.ActMove, From: api.IpDst, Field: api.Reg1}, want)
	refuses(t, "Move from", arp(1), api.Act{Kind: api.ActMove, From: api.IpDst, Field: api.Reg1}, api.ErrPrereq)
	refuses(t, "Move to", arp(1), api.Act{Kind: api.ActMove, From: api.Reg1, Field: api.IpDst}, api.ErrPrereq)
}

// P11.2
func TestStepHop(t *testing.T) {
	hop := api.Act{Kind: api.ActHop}
	for _, s := range states() {
		if !s.P.IsIp {
			refuses(t, "Hop", s, hop, api.ErrPrereq)
			s.P.Ip.Ttl = 1
			refuses(t, "Hop", s, hop, api.ErrPrereq)
			continue
		}
		for _, ttl := range []int{2, 3, 64, 255} {
			s.P.Ip.Ttl = ttl
			want := s
			want.P.Ip.Ttl = ttl - 1
			becomes(t, "Hop", s, hop, want)
		}
		for _, ttl := range []int{1, 0, -1, math.MinInt} {
			s.P.Ip.Ttl = ttl
			refuses(t, "Hop", s, hop, api.ErrTtl) // the document's example
		}
	}
}

// flow is FNV-1a, as the library has it, of the bytes that tell a flow.
func flow(p api.Packet) uint32 {
	h := fnv.New32a()
	word := func(v int) { h.Write([]byte{byte(v >> 8), byte(v)}) }
	word(int(p.Ip.Src >> 16))
	word(int(p.Ip.Src))
	word(int(p.Ip.Dst >> 16))
	word(int(p.Ip.Dst))
	h.Write([]byte{byte(p.Ip.Proto)})
	word(p.L4.Sport)
	word(p.L4.Dport)
	return h.Sum32()
}

// P11.2
func TestStepPick(t *testing.T) {
	r := rand.New(rand.NewSource(1))
	picked := map[api.Way]int{}
	for _, n := range []int{1, 2, 3, 7, 63, 64} {
		ways := make([]api.Way, n)
		for i := range ways {
			ways[i] = api.Way{Ip: 0x0b000000 + uint32(i), Port: 65535 - i}
		}
		for range 50 {
			for _, s := range []api.State{udp(), tcp()} {
				s.P.Ip.Src, s.P.L4.Sport = r.Uint32(), r.Intn(65536)
				way := ways[flow(s.P)%uint32(n)]
				picked[way]++
				want := s
				want.P.Ip.Dst, want.P.L4.Dport = way.Ip, way.Port
				becomes(t, "Pick", s, api.Act{Kind: api.ActPick, Ways: ways}, want)
			}
		}
	}
	if len(picked) < 60 {
		t.Errorf("only %d were picked", len(picked))
	}
	want := tcp()
	want.P.Ip.Dst, want.P.L4.Dport = 0, 0
	becomes(t, "noughts", tcp(), api.Act{Kind: api.ActPick, Ways: []api.Way{{}}}, want)
	for _, s := range states() {
		if s.P.L4.Kind != api.KindUdp && s.P.L4.Kind != api.KindTcp {
			refuses(t, "Pick", s, api.Act{Kind: api.ActPick, Ways: []api.Way{{Ip: 1, Port: 2}}}, api.ErrPrereq)
		}
	}
	s := udp()
	s.P.IsIp = false
	refuses(t, "no IPv4", s, api.Act{Kind: api.ActPick, Ways: []api.Way{{Ip: 1, Port: 2}}}, api.ErrPrereq)
}

// P11.2: the document's example, and packets that it is not for.
func TestStepArp(t *testing.T) {
	for _, mac := range []uint64{macC, 0, api.MaxMac} {
		want := arp(1)
		want.P.Eth.Dst, want.P.Eth.Src = macA, mac
		want.P.Arp = api.Arp{Op: 2, Sha: mac, Spa: ipB, Tha: macA, Tpa: ipA}
		becomes(t, "Arp", arp(1), api.Act{Kind: api.ActArp, Value: mac}, want)
	}
	s := arp(1)
	s.P.Eth.Src = 0x77 // the frame may be from another one than the sender
	want := s
	want.P.Eth.Dst, want.P.Eth.Src = 0x77, macC
	want.P.Arp = api.Arp{Op: 2, Sha: macC, Spa: ipB, Tha: macA, Tpa: ipA}
	becomes(t, "Arp", s, api.Act{Kind: api.ActArp, Value: macC}, want)
	for _, op := range []int{0, 2, 3, 257, 65535, -1} {
		refuses(t, "another Op", arp(op), api.Act{Kind: api.ActArp, Value: macC}, api.ErrPrereq)
	}
	for _, s := range states() {
		if !s.P.IsArp {
			s.P.Arp.Op = 1
			refuses(t, "no ARP", s, api.Act{Kind: api.ActArp, Value: macC}, api.ErrPrereq)
		}
	}
}

// P11.2
func TestStepEcho(t *testing.T) {
	want := icmp(0, 0)
	want.P.Eth.Dst, want.P.Eth.Src = macA, macB
	want.P.Ip.Src, want.P.Ip.Dst, want.P.Ip.Ttl = ipB, ipA, 64
	becomes(t, "Echo", icmp(8, 0), api.Act{Kind: api.ActEcho}, want)
	refuses(t, "another code", icmp(8, 1), api.Act{Kind: api.ActEcho}, api.ErrPrereq)
	for _, s := range states() {
		if s != icmp(8, 0) {
			refuses(t, "no echo", s, api.Act{Kind: api.ActEcho}, api.ErrPrereq)
		}
	}
}

// P11.2
func TestStepError(t *testing.T) {
	a := api.Act{Kind: api.ActError, Port: 11, Table: 1, Value: macC, From: ipC}
	want := on(api.Packet{Eth: api.Eth{Type: api.TypeIp}, IsIp: true})
	want.P.Eth.Dst, want.P.Eth.Src, want.P.Pad = macA, macC, ""
	want.P.Ip = api.Ip{Ttl: 64, Proto: api.ProtoIcmp, Src: ipC, Dst: ipA}
	want.P.L4 = api.L4{Kind: api.KindIcmp, Type: 11, Code: 1}
	x, e := act.Step(udp(), a)
	quoted := x.P.L4.Data
	want.P.L4.Data = quoted
	if x != want || e != api.OK || len(quoted) != 24+8 || quoted[24:28] != "\x03\xe8\x00\x35" {
		t.Errorf("%+v, %d", x, e)
	}
	for _, s := range states() {
		for _, a := range []api.Act{a, {Kind: api.ActError}, {Kind: api.ActError, Port: 255, Table: 255, Value: api.MaxMac, From: 1<<32 - 1}} {
			p, ok := packet.Error(s.P, a.Value, uint32(a.From), a.Port, a.Table)
			want := s
			want.P = p
			if ok {
				becomes(t, "Error", s, a, want)
			} else {
				refuses(t, "Error", s, a, api.ErrPrereq)
			}
		}
	}
	for _, change := range []func(s *api.State){
		func(s *api.State) { s.P.Ip.Src = 0 },
		func(s *api.State) { s.P.Ip.Src = 0xe0000000 },
		func(s *api.State) { s.P.Eth.Src |= 1 << 40 },
		func(s *api.State) { s.P.Body = "what Print refuses" },
		func(s *api.State) { *s = icmp(3, 0) },
		func(s *api.State) { *s = arp(1) },
	} {
		s := udp()
		change(&s)
		refuses(t, "no answer", s, a, api.ErrPrereq)
	}
}

func lease() api.Lease {
	return api.Lease{Mac: macA, Ip: 0x0a000005, Server: ipC, Mask: 0xffffff00, Router: 0x0a0000fd, Time: 3600}
}

func discover() api.Dhcp {
	return api.Dhcp{Op: 1, Xid: 0x01020304, Secs: 9, Flags: 0x8000, Chaddr: macA, Options: []api.Option{{Code: 53, Data: "\x01"}, {Code: 12, Data: "name"}}}
}

// asks is a State of a packet from port 68 to port 67 with that message.
func asks(m api.Dhcp) api.State {
	data, e := dhcp.Encode(m)
	if e != api.OK {
		panic(e)
	}
	return ipv4(api.ProtoUdp, api.L4{Kind: api.KindUdp, Sport: 68, Dport: 67, NoSum: true, Data: string(data)})
}

// answer is the bytes of the lease's answer to a message.
func answer(kind string) string {
	return "\x02\x01\x06\x00" + "\x01\x02\x03\x04" + "\x00\x00\x80\x00" + "\x00\x00\x00\x00" + "\x0a\x00\x00\x05" + "\x0a\x00\x00\xfe" + "\x00\x00\x00\x00" +
		"\x02\x00\x00\x00\x00\x01" + strings.Repeat("\x00", 202) + "\x63\x82\x53\x63" +
		"\x35\x01" + kind + "\x36\x04\x0a\x00\x00\xfe" + "\x33\x04\x00\x00\x0e\x10" + "\x01\x04\xff\xff\xff\x00" + "\x03\x04\x0a\x00\x00\xfd" + "\xff"
}

// P11.2
func TestStepDhcp(t *testing.T) {
	a := api.Act{Kind: api.ActDhcp, Lease: lease(), Value: macC}
	want := on(api.Packet{Eth: api.Eth{Type: api.TypeIp}, IsIp: true})
	want.P.Eth.Dst, want.P.Eth.Src = macA, macC
	want.P.Ip = api.Ip{Ttl: 64, Proto: api.ProtoUdp, Src: ipC, Dst: 0xffffffff}
	want.P.L4 = api.L4{Kind: api.KindUdp, Sport: 67, Dport: 68, Data: answer("\x02")}
	becomes(t, "a discover", asks(discover()), a, want)

	s := asks(discover())
	s.P.Eth.Src, s.P.Eth.Dst = 0x77, api.MaxMac // the frame's source plays no part: Chaddr does
	becomes(t, "by a relay", s, a, want)

	request := discover()
	request.Options[0].Data = "\x03"
	want.P.L4.Data = answer("\x05")
	becomes(t, "a request", asks(request), a, want)

	bare := asks(request)
	bare.P.Eth.Tagged, bare.P.Eth.Tag, bare.P.Pad = false, 0, ""
	want.P.Eth.Tagged, want.P.Eth.Tag, want.P.Pad = false, 0, ""
	becomes(t, "without tag and pad", bare, a, want)
}

// P11.2: packets that Dhcp is not for, and messages that are not answered.
func TestStepDhcpRefuses(t *testing.T) {
	a := api.Act{Kind: api.ActDhcp, Lease: lease(), Value: macC}
	for _, ports := range [][2]int{{67, 68}, {68, 68}, {67, 67}, {68, 66}, {69, 67}, {0, 67}, {68, 0}, {68 + 65536, 67}, {68, 67 + 65536}} {
		s := asks(discover())
		s.P.L4.Sport, s.P.L4.Dport = ports[0], ports[1]
		refuses(t, "other ports", s, a, api.ErrPrereq)
	}
	for _, kind := range []int{-1, api.KindOpaque, api.KindIcmp, api.KindTcp, 4} {
		s := asks(discover())
		s.P.L4.Kind = kind
		refuses(t, "another kind", s, a, api.ErrPrereq)
	}
	s := asks(discover())
	s.P.IsIp = false
	refuses(t, "no IPv4", s, a, api.ErrPrereq)
	whole := asks(discover()).P.L4.Data
	for _, data := range []string{"", "x", whole[:239], whole[:240], whole[:len(whole)-1], "\x03" + whole[1:], "\x01\x02" + whole[2:], strings.Repeat("\x00", 300)} {
		s := asks(discover())
		s.P.L4.Data = data
		refuses(t, "no message", s, a, api.ErrPrereq)
	}
	for _, change := range []func(m *api.Dhcp){
		func(m *api.Dhcp) { m.Op = 2 },
		func(m *api.Dhcp) { m.Chaddr = macB },
		func(m *api.Dhcp) { m.Options[0].Data = "\x07" },
		func(m *api.Dhcp) { m.Options = nil },
		func(m *api.Dhcp) {
			m.Options = []api.Option{{Code: 53, Data: "\x03"}, {Code: 50, Data: "\x0a\x00\x00\x06"}}
		},
		func(m *api.Dhcp) {
			m.Options = []api.Option{{Code: 53, Data: "\x03"}, {Code: 54, Data: "\x0a\x00\x00\x01"}}
		},
	} {
		m := discover()
		change(&m)
		refuses(t, "no answer", asks(m), a, api.ErrPrereq)
	}
	for _, s := range states() {
		if s != asks(discover()) {
			refuses(t, "no DHCP", s, a, api.ErrPrereq)
		}
	}
}

// randomAct is one that may be, and needs nothing but the packet.
func randomAct(r *rand.Rand) api.Act {
	settable := func() int {
		f := 1 + r.Intn(28)
		for isFixed(f) {
			f = 1 + r.Intn(28)
		}
		return f
	}
	switch r.Intn(8) {
	case 0, 1:
		f := settable()
		mask := 1<<r.Intn(field.Bits(f)) | r.Uint64()&ones(f)
		return api.Act{Kind: api.ActSet, Field: f, Value: r.Uint64() & mask, Mask: mask}
	case 2, 3:
		return api.Act{Kind: api.ActMove, From: 1 + r.Intn(28), Field: settable()}
	case 4:
		return api.Act{Kind: api.ActPick, Ways: []api.Way{{Ip: r.Uint32(), Port: r.Intn(65536)}, {Ip: r.Uint32(), Port: r.Intn(65536)}}}
	case 5:
		return api.Act{Kind: api.ActArp, Value: r.Uint64() & api.MaxMac}
	case 6:
		return api.Act{Kind: api.ActError, Port: r.Intn(256), Table: r.Intn(256), Value: r.Uint64() & api.MaxMac, From: int(r.Uint32())}
	}
	return []api.Act{{Kind: api.ActHop}, {Kind: api.ActEcho}, {Kind: api.ActDhcp, Lease: lease(), Value: macC}}[r.Intn(3)]
}

// P11.3
func TestPrintStays(t *testing.T) {
	r := rand.New(rand.NewSource(2))
	steps := map[int]int{}
	for range 3000 {
		s := states()[r.Intn(len(states()))]
		for range 12 {
			a := randomAct(r)
			if e := act.Check(a); e != api.OK {
				t.Fatalf("%+v: %d", a, e)
			}
			x, e := act.Step(s, a)
			if e != api.OK {
				if x != (api.State{}) || e != api.ErrPrereq && e != api.ErrTtl {
					t.Fatalf("%+v: %+v, %d", a, x, e)
				}
				continue
			}
			steps[a.Kind]++
			if _, e := packet.Print(x.P); e != api.OK {
				t.Fatalf("%+v of %+v: %+v: %d", a, s, x, e)
			}
			s = x
		}
	}
	if len(steps) != 8 {
		t.Errorf("not all kinds were done: %v", steps)
	}
}

// R1, R2: whatever comes in.
func TestWhatever(t *testing.T) {
	r := rand.New(rand.NewSource(3))
	number := func() int {
		return []int{0, 0, 0, 1, 2, 3, 67, 68, 255, 256, 65535, 65536, -1, math.MinInt, math.MaxInt, r.Intn(30)}[r.Intn(16)]
	}
	yes := func() bool { return r.Intn(2) == 0 }
	for range 50000 {
		s := states()[r.Intn(len(states()))]
		if yes() {
			s.P.IsArp, s.P.IsIp, s.P.L4.Kind, s.P.Ip.Ttl, s.P.Ip.Frag = yes(), yes(), number(), number(), number()
			s.P.L4.Sport, s.P.L4.Dport, s.P.Eth.Tag = number(), number(), number()
		}
		a := api.Act{Kind: r.Intn(17) - 1}
		for _, put := range []func(){
			func() { a.Field = number() }, func() { a.From = number() }, func() { a.Value = r.Uint64() >> r.Intn(64) },
			func() { a.Mask = r.Uint64() >> r.Intn(64) }, func() { a.Table = number() }, func() { a.Port = number() },
			func() { a.Acts = hops(r.Intn(3)) }, func() { a.Ways = make([]api.Way, r.Intn(70)) }, func() { a.Lease = lease() },
		} {
			if r.Intn(4) == 0 {
				put()
			}
		}
		x, e := act.Step(s, a)
		if (e != api.OK) != (x == (api.State{})) {
			t.Fatalf("%+v: %+v, %d", a, x, e)
		}
		if (act.Check(a) != api.OK || !act.Pure(a.Kind)) != (e == api.ErrAct) {
			t.Fatalf("%+v: %d", a, e)
		}
		act.CheckAll([]api.Act{a, a})
	}
}

// R3: what is handed in stays as it is.
func TestArgumentsStay(t *testing.T) {
	ways := []api.Way{{Ip: 1, Port: 2}, {Ip: 3, Port: 4}, {Ip: 5, Port: 6}}
	acts := []api.Act{{Kind: api.ActPick, Ways: ways[:2]}, cloned(2, api.Act{Kind: api.ActPick, Ways: ways[:1]}), {Kind: 99}}
	before, waysBefore := slices.Clone(acts), slices.Clone(ways)
	act.CheckAll(acts[:2])
	act.Check(api.Act{Kind: api.ActClone, Acts: acts[:2]})
	act.Step(udp(), acts[0])
	if !reflect.DeepEqual(acts, before) || !slices.Equal(ways, waysBefore) || !slices.Equal(acts[1].Acts[0].Acts[0].Ways, waysBefore[:1]) {
		t.Errorf("%+v, %+v", acts, ways)
	}
}
