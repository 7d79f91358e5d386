package packet_test

import (
	"strings"
	"testing"

	"skein/api"
	"skein/packet"
)

const macR, ipR = 0x02aabbccddee, 0x0a0000fe

// answers asks that Error answers a message of Type 11 that quotes what stands in quoted.
func answers(t *testing.T, what string, p api.Packet, quoted []byte) {
	t.Helper()
	want := api.Packet{
		Eth:  api.Eth{Dst: p.Eth.Src, Src: macR, Tagged: p.Eth.Tagged, Tag: p.Eth.Tag, Type: api.TypeIp},
		IsIp: true,
		Ip:   api.Ip{Ttl: 64, Proto: api.ProtoIcmp, Src: ipR, Dst: p.Ip.Src},
		L4:   api.L4{Kind: api.KindIcmp, Type: 11, Code: 1, Data: string(quoted)},
	}
	q, ok := packet.Error(p, macR, ipR, 11, 1)
	if q != want || !ok {
		t.Errorf("%s: %#v, %v", what, q, ok)
		return
	}
	b, e := packet.Print(q)
	if e != api.OK {
		t.Errorf("%s: %d", what, e)
	}
	reads(t, what, b, q)
}

// silent asks that Error answers false, and nothing beside it.
func silent(t *testing.T, what string, p api.Packet) {
	t.Helper()
	if q, ok := packet.Error(p, macR, ipR, 11, 0); q != (api.Packet{}) || ok {
		t.Errorf("%s: %#v, %v", what, q, ok)
	}
}

// P5.3: of each IPv4 sample its head and 8 bytes, or as many as there are; Pad is none of them.
func TestError(t *testing.T) {
	sizes := map[string][2]int{ // from where on, how many bytes
		"ICMP of 28 bytes in a frame of 60": {14, 28},
		"UDP with options":                  {14, 32},
		"UDP without a sum":                 {14, 28},
		"TCP, tagged":                       {18, 28},
		"another protocol":                  {14, 23},
		"a first fragment":                  {14, 28},
	}
	asked := 0
	for _, s := range samples() {
		if place, ok := sizes[s.what]; ok {
			answers(t, s.what, s.p, s.b[place[0]:place[0]+place[1]])
			asked++
		} else {
			silent(t, s.what, s.p)
		}
	}
	if asked != len(sizes) {
		t.Error("samples that are not there", asked)
	}
}

// P5.3: fewer than 8 bytes behind the head, 8 and more.
func TestErrorQuotes(t *testing.T) {
	for _, options := range []string{"", "\x01\x01\x01\x00", strings.Repeat("\x01", 40)} {
		for n := range 12 {
			p := padded(opaque(47, 0, "0123456789ab"[:n]), "padding of the frame")
			p.Ip.Options = options
			b, e := packet.Print(p)
			if e != api.OK {
				t.Fatal(e)
			}
			answers(t, "some bytes", p, b[14:34+len(options)+min(n, 8)])
		}
	}
}

// P5.3: numbers are cut to their lowest bits.
func TestErrorCuts(t *testing.T) {
	cases := []struct {
		mac        uint64
		kind, code int
		wantMac    uint64
		wantKind   int
		wantCode   int
	}{
		{0xffff020000000009, 3, 4, 0x020000000009, 3, 4},
		{1 << 48, 256 + 11, 512 + 1, 0, 11, 1},
		{api.MaxMac, -1, -256, api.MaxMac, 255, 0},
		{0, 255, 255, 0, 255, 255},
		{7, 0, 0, 7, 0, 0},
	}
	for _, c := range cases {
		q, ok := packet.Error(udp(), c.mac, ipR, c.kind, c.code)
		if !ok || q.Eth.Src != c.wantMac || q.L4.Type != c.wantKind || q.L4.Code != c.wantCode {
			t.Errorf("%x, %d, %d: %#v, %v", c.mac, c.kind, c.code, q, ok)
		}
	}
	for _, ip := range []uint32{0, 1, 0xffffffff} {
		if q, ok := packet.Error(udp(), macR, ip, 3, 0); !ok || q.Ip.Src != ip {
			t.Errorf("%x: %#v, %v", ip, q, ok)
		}
	}
}

// P5.3: of messages of faults none is told; of an echo and its reply they are, whatever the code.
func TestErrorOfMessages(t *testing.T) {
	for kind := range 256 {
		for _, code := range []int{0, 1} {
			p := echo()
			p.L4.Type, p.L4.Code = kind, code
			b, e := packet.Print(p)
			if e != api.OK {
				t.Fatal(e)
			}
			if kind == 0 || kind == 8 {
				answers(t, "an echo or its reply", p, b[14:42])
			} else {
				silent(t, "another message", p)
			}
		}
	}
	q, ok := packet.Error(udp(), macR, ipR, 3, 0)
	if !ok {
		t.Fatal("no answer")
	}
	silent(t, "an answer", q)
	// Into a fragment nobody looks: it is of no type.
	first := opaque(api.ProtoIcmp, 0x2000, "\x03\x00\x00\x00\x00\x00\x00\x00")
	b, _ := packet.Print(first)
	answers(t, "a first fragment", first, b[14:42])
}

// P5.3
func TestErrorOfFragments(t *testing.T) {
	for _, frag := range []int{0, 0x2000, 0x4000, 0x6000, 0x8000, 0xe000} {
		p := opaque(47, frag, "")
		b, _ := packet.Print(p)
		answers(t, "a first fragment", p, b[14:34])
	}
	for _, frag := range []int{1, 0x1fff, 0x1000, 0x2001, 0x3fff, 0xffff} {
		silent(t, "a fragment that is not the first", opaque(47, frag, ""))
		silent(t, "a fragment that is not the first", opaque(api.ProtoUdp, frag, "12345678"))
	}
}

// P5.3
func TestErrorOfSources(t *testing.T) {
	for _, src := range []uint32{1, 0x7f000001, 0xdfffffff, 0xe0000000 - 256} {
		p := opaque(47, 0, "")
		p.Ip.Src = src
		b, _ := packet.Print(p)
		answers(t, "a source", p, b[14:34])
	}
	for _, src := range []uint32{0, 0xe0000000, 0xe0000001, 0xefffffff, 0xf0000000, 0xffffffff} {
		p := opaque(47, 0, "")
		p.Ip.Src = src
		silent(t, "a source", p)
	}
	for _, mac := range []uint64{0, 1, 0xfeffffffffff, 0x020000000001} {
		p := opaque(47, 0, "")
		p.Eth.Src = mac
		b, _ := packet.Print(p)
		answers(t, "a source address", p, b[14:34])
	}
	for _, mac := range []uint64{0x010000000000, 0x01005e000001, 0x030000000001, api.MaxMac} {
		p := opaque(47, 0, "")
		p.Eth.Src = mac
		silent(t, "a multicast source address", p)
	}
	p := opaque(47, 0, "")
	p.Eth.Dst, p.Ip.Dst = api.MaxMac, 0xffffffff
	b, _ := packet.Print(p)
	answers(t, "destinations play no part", p, b[14:34])
}

// P5.3: what Print refuses is not answered.
func TestErrorOfWrong(t *testing.T) {
	cases := []struct {
		what string
		set  func(p *api.Packet)
	}{
		{"not IsIp", func(p *api.Packet) { p.IsIp = false }},
		{"IsArp too", func(p *api.Packet) { p.IsArp = true }},
		{"another type", func(p *api.Packet) { p.Eth.Type = api.TypeArp }},
		{"an address too great", func(p *api.Packet) { p.Eth.Src = 1 << 48 }},
		{"a body", func(p *api.Packet) { p.Body = "x" }},
		{"another kind", func(p *api.Packet) { p.L4.Kind = api.KindTcp }},
		{"a kind in a fragment", func(p *api.Packet) { p.Ip.Frag = 0x2000 }},
		{"a Ttl too great", func(p *api.Packet) { p.Ip.Ttl = 256 }},
		{"a port too great", func(p *api.Packet) { p.L4.Sport = 65536 }},
		{"too long", func(p *api.Packet) { p.Pad = strings.Repeat("x", api.MaxFrame) }},
	}
	for _, c := range cases {
		p := udp()
		c.set(&p)
		silent(t, c.what, p)
	}
	silent(t, "nothing", api.Packet{})
	longest := udp()
	longest.Pad = strings.Repeat("x", api.MaxFrame-49)
	b, e := packet.Print(longest)
	if e != api.OK {
		t.Fatal(e)
	}
	answers(t, "the longest", longest, b[14:46])
}

// P5.3
func TestEcho(t *testing.T) {
	asked := padded(tagged(echo(), 7), "\x01\x02")
	asked.L4.Rest, asked.L4.Data = 0xfedcba98, "ping"
	asked.Ip.Tos, asked.Ip.Id, asked.Ip.Frag, asked.Ip.Options = 1, 2, 0xc000, "\x01\x01\x01\x00"
	for _, ttl := range []int{0, 1, 63, 64, 255} {
		asked.Ip.Ttl = ttl
		want := asked
		want.Eth.Dst, want.Eth.Src = macA, macB
		want.Ip.Dst, want.Ip.Src, want.Ip.Ttl = ipA, ipB, 64
		want.L4.Type = 0
		q, ok := packet.Echo(asked)
		if q != want || !ok {
			t.Errorf("Ttl %d: %#v, %v", ttl, q, ok)
		}
		b, e := packet.Print(q)
		if e != api.OK {
			t.Error(e)
		}
		reads(t, "a reply", b, want)
		if again, ok := packet.Echo(q); again != (api.Packet{}) || ok {
			t.Errorf("a reply of a reply: %#v, %v", again, ok)
		}
	}
}

// P5.3
func TestEchoOfOthers(t *testing.T) {
	noIp := echo()
	noIp.IsIp = false
	others := []sample{{what: "nothing"}, {what: "no IPv4", p: noIp}}
	for kind := range 256 {
		for _, code := range []int{0, 1, 255} {
			p := echo()
			p.L4.Type, p.L4.Code = kind, code
			if kind != 8 || code != 0 {
				others = append(others, sample{what: "another message", p: p})
			}
		}
	}
	for _, frag := range []int{0x2000, 1, 0x1fff, 0x2001} {
		p := echo()
		p.Ip.Frag = frag
		others = append(others, sample{what: "an echo in a fragment", p: p})
		others = append(others, sample{what: "a fragment", p: opaque(api.ProtoIcmp, frag, "\x08\x00\xf7\xff\x00\x00\x00\x00")})
	}
	for _, s := range samples() {
		if s.p.L4.Kind != api.KindIcmp {
			others = append(others, s)
		}
	}
	for _, kind := range []int{api.KindOpaque, api.KindUdp, api.KindTcp} {
		p := echo()
		p.L4.Kind = kind
		others = append(others, sample{what: "another kind", p: p})
	}
	for _, s := range others {
		if q, ok := packet.Echo(s.p); q != (api.Packet{}) || ok {
			t.Errorf("%s: %#v, %v", s.what, q, ok)
		}
	}
}
