package packet_test

import (
	"bytes"
	"encoding/hex"
	"hash/fnv"
	"math"
	"math/rand"
	"slices"
	"strings"
	"testing"

	"skein/api"
	"skein/packet"
)

const macA, macB = 0x020000000001, 0x020000000002

const ipA, ipB = 0x0a000001, 0x0a000002

// heads is how all samples begin: from macA to macB.
const heads = "02 00 00 00 00 02 02 00 00 00 00 01 "

// A packet, and its bytes.
type sample struct {
	what string
	p    api.Packet
	b    []byte
}

// raw is the bytes that a text in hexadecimal says; spaces play no part.
func raw(s string) []byte {
	b, err := hex.DecodeString(strings.ReplaceAll(s, " ", ""))
	if err != nil {
		panic(err)
	}
	return b
}

// framed is a packet of a type from macA to macB.
func framed(kind int) api.Packet {
	return api.Packet{Eth: api.Eth{Dst: macB, Src: macA, Type: kind}, IsArp: kind == api.TypeArp, IsIp: kind == api.TypeIp}
}

func tagged(p api.Packet, tag int) api.Packet {
	p.Eth.Tagged, p.Eth.Tag = true, tag
	return p
}

func padded(p api.Packet, pad string) api.Packet {
	p.Pad = pad
	return p
}

func other(kind int, body string) api.Packet {
	p := framed(kind)
	p.Body = body
	return p
}

func arp() api.Packet {
	p := framed(api.TypeArp)
	p.Arp = api.Arp{Op: 1, Sha: macA, Spa: ipA, Tha: 0x0a0b0c0d0e0f, Tpa: ipB}
	return p
}

// ipv4 is a packet from ipA to ipB with a Ttl of 64.
func ipv4(proto, frag int, x api.L4) api.Packet {
	p := framed(api.TypeIp)
	p.Ip = api.Ip{Frag: frag, Ttl: 64, Proto: proto, Src: ipA, Dst: ipB}
	p.L4 = x
	return p
}

func echo() api.Packet {
	return ipv4(api.ProtoIcmp, 0, api.L4{Kind: api.KindIcmp, Type: 8, Rest: 0x12340001})
}

func udp() api.Packet {
	p := ipv4(api.ProtoUdp, 0x4000, api.L4{Kind: api.KindUdp, Sport: 1000, Dport: 53, Data: "ask"})
	p.Ip.Tos, p.Ip.Id, p.Ip.Ttl, p.Ip.Options = 0xab, 0x1234, 3, "\x94\x04\x00\x00"
	return p
}

func tcp() api.Packet {
	return ipv4(api.ProtoTcp, 0x8000, api.L4{
		Kind: api.KindTcp, Sport: 1000, Dport: 80, Seq: 0x01020304, Ack: 0xa1a2a3a4, Flags: 0xb53,
		Window: 0x7210, Urgent: 0x0809, Options: "\x02\x04\x05\xb4", Data: "GET",
	})
}

func opaque(proto, frag int, data string) api.Packet {
	return ipv4(proto, frag, api.L4{Kind: api.KindOpaque, Data: data})
}

func samples() []sample {
	const arpBytes = "08 06 00 01 08 00 06 04 00 01 02 00 00 00 00 01 0a 00 00 01 0a 0b 0c 0d 0e 0f 0a 00 00 02"
	const ends = "0a 00 00 01 0a 00 00 02 "
	noSum := api.L4{Kind: api.KindUdp, Sport: 68, Dport: 67, NoSum: true}
	return []sample{
		{"another type", other(0x86dd, "\x60\x00\xff"), raw(heads + "86 dd 60 00 ff")},
		{"another type, no more", other(0, ""), raw(heads + "00 00")},
		{"another type, tagged", tagged(other(0xffff, "x"), 7), raw(heads + "81 00 00 07 ff ff 78")},
		{"ARP", arp(), raw(heads + arpBytes)},
		{"ARP, padded", padded(arp(), strings.Repeat("\x00", 17)+"\x01"), raw(heads + arpBytes + strings.Repeat("00", 17) + "01")},
		{"ARP, tagged", padded(tagged(arp(), 0xffff), "\xee"), raw(heads + "81 00 ff ff" + arpBytes + "ee")},
		{
			"ICMP of 28 bytes in a frame of 60", padded(echo(), strings.Repeat("\x00", 18)), // the document's example
			raw(heads + "08 00 45 00 00 1c 00 00 00 00 40 01 66 df " + ends + "08 00 e5 ca 12 34 00 01" + strings.Repeat("00", 18)),
		},
		{
			"UDP with options", padded(udp(), "\xee"),
			raw(heads + "08 00 46 ab 00 23 12 34 40 00 03 11 bb e4 " + ends + "94 04 00 00 03 e8 00 35 00 0b 1b 45 61 73 6b ee"),
		},
		{
			"UDP without a sum", ipv4(api.ProtoUdp, 0, noSum),
			raw(heads + "08 00 45 00 00 1c 00 00 00 00 40 11 66 cf " + ends + "00 44 00 43 00 08 00 00"),
		},
		{
			"TCP, tagged", tagged(tcp(), 0xe007),
			raw(heads + "81 00 e0 07 08 00 45 00 00 2f 00 00 80 00 40 06 e6 c6 " + ends +
				"03 e8 00 50 01 02 03 04 a1 a2 a3 a4 6b 53 72 10 15 ec 08 09 02 04 05 b4 47 45 54"),
		},
		{
			"another protocol", padded(opaque(47, 0, "\x00\x01\x02"), "\xaa\xbb"),
			raw(heads + "08 00 45 00 00 17 00 00 00 00 40 2f 66 b6 " + ends + "00 01 02 aa bb"),
		},
		{
			"a first fragment", padded(opaque(api.ProtoUdp, 0x2000, "\x03\xe8\x00\x35\x01\x00\x00\x00"), "\xcc"),
			raw(heads + "08 00 45 00 00 1c 00 00 20 00 40 11 46 cf " + ends + "03 e8 00 35 01 00 00 00 cc"),
		},
		{
			"a fragment between", opaque(api.ProtoIcmp, 0x2001, "piece"),
			raw(heads + "08 00 45 00 00 19 00 00 20 01 40 01 46 e1 " + ends + "70 69 65 63 65"),
		},
		{
			"a last fragment", opaque(api.ProtoTcp, 0x1fff, "end"),
			raw(heads + "08 00 45 00 00 17 00 00 1f ff 40 06 46 e0 " + ends + "65 6e 64"),
		},
	}
}

// bytesOf is the bytes of the sample of that name.
func bytesOf(what string) []byte {
	for _, s := range samples() {
		if s.what == what {
			return s.b
		}
	}
	panic(what)
}

// with is a copy of b whose bytes from at on are others.
func with(b []byte, at int, c ...byte) []byte {
	b = slices.Clone(b)
	copy(b[at:], c)
	return b
}

// headSummed is a copy of an untagged IPv4 frame whose head has the right check sum.
func headSummed(b []byte) []byte {
	b = with(b, 24, 0, 0)
	total := 0
	for at := 14; at < 14+4*int(b[14]&15); at += 2 {
		total += int(b[at])<<8 + int(b[at+1])
	}
	check := 0xffff - ((total-1)%0xffff + 1)
	return with(b, 24, byte(check>>8), byte(check))
}

func reads(t *testing.T, what string, b []byte, want api.Packet) {
	t.Helper()
	if p, e := packet.Parse(b); p != want || e != api.OK {
		t.Errorf("%s: %#v, %d", what, p, e)
	}
}

// unread asks that Parse answers an error, and nothing beside it.
func unread(t *testing.T, what string, b []byte, want api.Errno) {
	t.Helper()
	if p, e := packet.Parse(b); p != (api.Packet{}) || e != want {
		t.Errorf("%s, %d bytes: %#v, %d, not %d", what, len(b), p, e, want)
	}
}

func prints(t *testing.T, what string, p api.Packet, want []byte) {
	t.Helper()
	if b, e := packet.Print(p); !bytes.Equal(b, want) || e != api.OK {
		t.Errorf("%s: % x, %d", what, b, e)
	}
}

// unprinted asks that Print answers an error, and nothing beside it.
func unprinted(t *testing.T, what string, p api.Packet, want api.Errno) {
	t.Helper()
	if b, e := packet.Print(p); len(b) != 0 || e != want {
		t.Errorf("%s: %d bytes, %d, not %d", what, len(b), e, want)
	}
}

// P5.1, P5.4
func TestSamples(t *testing.T) {
	for _, s := range samples() {
		reads(t, s.what, s.b, s.p)
		prints(t, s.what, s.p, s.b)
	}
}

// P5.1: what eth.Head refuses.
func TestParseHead(t *testing.T) {
	unread(t, "nil", nil, api.ErrShort)
	for _, s := range samples() {
		size := 14
		if s.p.Eth.Tagged {
			size = 18
		}
		for n := range size {
			unread(t, s.what, s.b[:n], api.ErrShort)
		}
	}
	unread(t, "tagged twice", raw(heads+"81 00 00 07 81 00 00 08 08 00"), api.ErrForm)
}

// P5.1: what eth.Arp refuses.
func TestParseArp(t *testing.T) {
	whole := bytesOf("ARP")
	for n := 14; n < len(whole); n++ {
		unread(t, "ARP", whole[:n], api.ErrShort)
	}
	for at := 14; at < 20; at++ {
		unread(t, "ARP of another form", with(whole, at, whole[at]+1), api.ErrForm)
	}
	reply := arp()
	reply.Arp.Op = 0x0302
	reads(t, "ARP of another operation", with(whole, 20, 3, 2), reply)
}

// P5.1: what ip.Decode refuses.
func TestParseIp(t *testing.T) {
	for _, what := range []string{"UDP with options", "UDP without a sum", "another protocol", "a first fragment", "a last fragment"} {
		whole := bytesOf(what)
		total := int(whole[16])<<8 + int(whole[17])
		for n := 14; n < 14+total; n++ {
			unread(t, what, whole[:n], api.ErrShort)
		}
		unread(t, what+", another version", with(whole, 14, whole[14]^0x20), api.ErrForm)
		unread(t, what+", too few words", with(whole, 14, 0x44), api.ErrForm)
		unread(t, what+", a total below the head's", with(whole, 16, 0, 19), api.ErrForm)
		for _, at := range []int{15, 18, 19, 21, 22, 23, 24, 25, 26, 33} {
			unread(t, what+", a byte of the head turned", with(whole, at, whole[at]^1), api.ErrSum)
		}
	}
}

// P5.1: what l4.Decode refuses, of whole packets alone.
func TestParseL4(t *testing.T) {
	cases := []struct {
		what string
		b    []byte
		want api.Errno
	}{
		{"ICMP of 7 bytes", headSummed(with(bytesOf("ICMP of 28 bytes in a frame of 60"), 17, 27)), api.ErrShort},
		{"UDP of 7 bytes", headSummed(with(bytesOf("UDP without a sum"), 17, 27)), api.ErrShort},
		{"UDP of another length", with(bytesOf("UDP without a sum"), 39, 9), api.ErrForm},
		{"UDP whose length is the frame's", with(headSummed(append(bytesOf("UDP without a sum"), 0)), 39, 9), api.ErrForm},
		{"UDP of another sum", with(bytesOf("UDP with options"), 45, 0x46), api.ErrSum},
		{"UDP of other data", with(bytesOf("UDP with options"), 48, 'K'), api.ErrSum},
		{"ICMP of another sum", with(bytesOf("ICMP of 28 bytes in a frame of 60"), 36, 0, 0), api.ErrSum},
		{"TCP of 4 words", with(bytesOf("TCP, tagged"), 50, 0x4b), api.ErrForm},
		{"TCP of too many words", with(bytesOf("TCP, tagged"), 50, 0x7b), api.ErrShort},
		{"TCP of other data", with(bytesOf("TCP, tagged"), 62, 'P'), api.ErrSum},
		{"UDP from another address", headSummed(with(bytesOf("UDP with options"), 29, 9)), api.ErrSum},
		{"UDP to another address", headSummed(with(bytesOf("UDP with options"), 33, 9)), api.ErrSum},
	}
	for _, c := range cases {
		unread(t, c.what, c.b, c.want)
	}
}

// P5.1: a fragment's bytes are nobody's to read; a packet with other flags is whole.
func TestParseFragments(t *testing.T) {
	broken := "\x08\x00\x00\x00\x12"
	for _, proto := range []int{api.ProtoIcmp, api.ProtoTcp, api.ProtoUdp, 47} {
		for _, frag := range []int{0x2000, 1, 0x1000, 0x2001, 0x1fff, 0x3fff, 0x6000, 0xe000, 0xffff} {
			b := append(bytesOf("UDP without a sum")[:34], broken+"pad"...)
			b = headSummed(with(with(b, 17, 25), 20, byte(frag>>8), byte(frag)))
			b = headSummed(with(b, 23, byte(proto)))
			want := padded(opaque(proto, frag, broken), "pad")
			reads(t, "a fragment", b, want)
			prints(t, "a fragment", want, b)
		}
		for _, frag := range []int{0, 0x4000, 0x8000, 0xc000} {
			b := append(bytesOf("UDP without a sum")[:34], broken...)
			b = headSummed(with(with(b, 17, 25), 20, byte(frag>>8), byte(frag)))
			b = headSummed(with(b, 23, byte(proto)))
			if proto == 47 {
				reads(t, "a whole packet", b, opaque(proto, frag, broken))
			} else {
				unread(t, "a whole packet", b, api.ErrShort)
			}
		}
	}
	reads(t, "a fragment without bytes", headSummed(with(bytesOf("a last fragment")[:34], 17, 20)), opaque(api.ProtoTcp, 0x1fff, ""))
}

// P5.1: what is behind the total length is Pad, whatever it is, and plays no other part.
func TestParsePad(t *testing.T) {
	for _, s := range samples() {
		for _, pad := range []string{"", "\x00", "\xff\xff\xff", strings.Repeat("\x01\x02", 400)} {
			want := s.p
			if s.p.IsArp || s.p.IsIp {
				want.Pad += pad
			} else {
				want.Body += pad
			}
			b := append(slices.Clone(s.b), pad...)
			reads(t, s.what, b, want)
			prints(t, s.what, want, b)
		}
	}
}

// P5.1: MaxFrame bytes, and one more.
func TestMaxFrame(t *testing.T) {
	for _, s := range samples() {
		room := strings.Repeat("\x2a", api.MaxFrame+1-len(s.b))
		longest, tooLong := s.p, s.p
		if s.p.IsArp || s.p.IsIp {
			longest.Pad += room[1:]
			tooLong.Pad += room
		} else {
			longest.Body += room[1:]
			tooLong.Body += room
		}
		b := append(slices.Clone(s.b), room[1:]...)
		reads(t, s.what, b, longest)
		prints(t, s.what, longest, b)
		unread(t, s.what, append(b, 0x2a), api.ErrLong)
		unprinted(t, s.what, tooLong, api.ErrLong)
	}
	unread(t, "too long ahead of tagged twice", append(raw(heads+"81 00 00 07 81 00"), make([]byte, api.MaxFrame)...), api.ErrLong)
}

// P5.1: bytes of which there are too many inside.
func TestPrintLong(t *testing.T) {
	for proto, head := range map[int]int{api.ProtoIcmp: 8, api.ProtoUdp: 8, api.ProtoTcp: 20, 47: 0} {
		kind := map[int]int{api.ProtoIcmp: api.KindIcmp, api.ProtoUdp: api.KindUdp, api.ProtoTcp: api.KindTcp}[proto]
		p := ipv4(proto, 0, api.L4{Kind: kind, Data: strings.Repeat("d", api.MaxFrame-34-head)})
		b, e := packet.Print(p)
		if len(b) != api.MaxFrame || e != api.OK {
			t.Errorf("protocol %d: %d bytes, %d", proto, len(b), e)
		}
		reads(t, "the longest", b, p)
		unprinted(t, "a tag more", tagged(p, 1), api.ErrLong)
		unprinted(t, "a byte of Pad more", padded(p, "\x00"), api.ErrLong)
		p.L4.Data += "d"
		unprinted(t, "a byte more", p, api.ErrLong)
		p.L4.Data = strings.Repeat("d", 65515-head)
		unprinted(t, "as many as a total length tells", p, api.ErrLong)
		p.Ip.Options = "\x01\x01\x01\x01"
		unprinted(t, "more than a total length tells", p, api.ErrArg)
		p.Ip.Options = ""
		p.L4.Data += "d"
		unprinted(t, "more than a total length tells", p, api.ErrArg)
	}
}

// P5.1
func TestPrintTypes(t *testing.T) {
	for _, kind := range []int{api.TypeArp, api.TypeIp, 0, 0x0801, 0x86dd, 0xffff, 1<<16 + api.TypeIp, -1} {
		for flags := range 4 {
			p := api.Packet{Eth: api.Eth{Type: kind}, IsArp: flags&1 != 0, IsIp: flags&2 != 0}
			right := kind >= 0 && kind <= 0xffff && p.IsArp == (kind == api.TypeArp) && p.IsIp == (kind == api.TypeIp)
			if !right {
				unprinted(t, "a type and flags", p, api.ErrArg)
			} else if _, e := packet.Print(p); e != api.OK {
				t.Errorf("%x, %v, %v: %d", kind, p.IsArp, p.IsIp, e)
			}
		}
	}
}

// P5.1: each field that is not of a packet's form.
func TestPrintForeign(t *testing.T) {
	const inArp, inIp, inOther = 1, 2, 4
	fields := []struct {
		what  string
		set   func(p *api.Packet)
		forms int
	}{
		{"Arp.Op", func(p *api.Packet) { p.Arp.Op = 2 }, inArp},
		{"Arp.Sha", func(p *api.Packet) { p.Arp.Sha = 2 }, inArp},
		{"Arp.Spa", func(p *api.Packet) { p.Arp.Spa = 2 }, inArp},
		{"Arp.Tha", func(p *api.Packet) { p.Arp.Tha = 2 }, inArp},
		{"Arp.Tpa", func(p *api.Packet) { p.Arp.Tpa = 2 }, inArp},
		{"Ip.Tos", func(p *api.Packet) { p.Ip.Tos = 2 }, inIp},
		{"Ip.Id", func(p *api.Packet) { p.Ip.Id = 2 }, inIp},
		{"Ip.Frag", func(p *api.Packet) { p.Ip.Frag = 0x4000 }, inIp},
		{"Ip.Ttl", func(p *api.Packet) { p.Ip.Ttl = 2 }, inIp},
		{"Ip.Proto", func(p *api.Packet) { p.Ip.Proto = 2 }, inIp},
		{"Ip.Src", func(p *api.Packet) { p.Ip.Src = 2 }, inIp},
		{"Ip.Dst", func(p *api.Packet) { p.Ip.Dst = 2 }, inIp},
		{"Ip.Options", func(p *api.Packet) { p.Ip.Options = "\x01\x01\x01\x00" }, inIp},
		{"L4.Kind", func(p *api.Packet) { p.L4.Kind = api.KindUdp }, 0},
		{"L4.Type", func(p *api.Packet) { p.L4.Type = 2 }, 0},
		{"L4.Code", func(p *api.Packet) { p.L4.Code = 2 }, 0},
		{"L4.Rest", func(p *api.Packet) { p.L4.Rest = 2 }, 0},
		{"L4.Sport", func(p *api.Packet) { p.L4.Sport = 2 }, 0},
		{"L4.NoSum", func(p *api.Packet) { p.L4.NoSum = true }, 0},
		{"L4.Options", func(p *api.Packet) { p.L4.Options = "\x01\x01\x01\x00" }, 0},
		{"L4.Data", func(p *api.Packet) { p.L4.Data = "\x00" }, inIp},
		{"Body", func(p *api.Packet) { p.Body = "\x00" }, inOther},
		{"Pad", func(p *api.Packet) { p.Pad = "\x00" }, inArp | inIp},
	}
	forms := map[int]api.Packet{inArp: framed(api.TypeArp), inIp: framed(api.TypeIp), inOther: framed(0x86dd)}
	for _, f := range fields {
		for form, p := range forms {
			f.set(&p)
			if f.forms&form == 0 {
				unprinted(t, f.what, p, api.ErrArg)
			} else if b, e := packet.Print(p); e != api.OK {
				t.Errorf("%s: %d", f.what, e)
			} else {
				reads(t, f.what, b, p)
			}
		}
	}
}

// P5.1: which kinds may stand behind which heads.
func TestPrintKinds(t *testing.T) {
	kinds := map[int]int{api.ProtoIcmp: api.KindIcmp, api.ProtoUdp: api.KindUdp, api.ProtoTcp: api.KindTcp}
	for _, frag := range []int{0, 0x4000, 0x8000, 0x2000, 1, 0x1fff, 0x2001} {
		for _, proto := range []int{0, 1, 2, 3, 6, 7, 16, 17, 18, 58, 255} {
			for kind := -1; kind < 5; kind++ {
				p := ipv4(proto, frag, api.L4{Kind: kind})
				want := kinds[proto] // 0 is KindOpaque
				if frag&0x3fff != 0 {
					want = api.KindOpaque
				}
				if kind != want {
					unprinted(t, "another kind", p, api.ErrArg)
				} else if b, e := packet.Print(p); e != api.OK {
					t.Errorf("kind %d of protocol %d in %x: %d", kind, proto, frag, e)
				} else {
					reads(t, "a kind", b, p)
				}
			}
		}
	}
}

// P5.1: what the layers below refuse.
func TestPrintLayers(t *testing.T) {
	cases := []struct {
		what string
		p    api.Packet
		set  func(p *api.Packet)
	}{
		{"Eth.Dst", other(5, ""), func(p *api.Packet) { p.Eth.Dst = api.MaxMac + 1 }},
		{"Eth.Src", udp(), func(p *api.Packet) { p.Eth.Src = api.MaxMac + 1 }},
		{"Eth.Tag", arp(), func(p *api.Packet) { p.Eth.Tag = 1 }},
		{"Eth.Tag", tagged(arp(), 65536), func(p *api.Packet) {}},
		{"Eth.Tag", tagged(arp(), -1), func(p *api.Packet) {}},
		{"Eth.Type", other(api.TypeVlan, "x"), func(p *api.Packet) {}},
		{"Arp.Op", arp(), func(p *api.Packet) { p.Arp.Op = 65536 }},
		{"Arp.Sha", arp(), func(p *api.Packet) { p.Arp.Sha = api.MaxMac + 1 }},
		{"Arp.Tha", arp(), func(p *api.Packet) { p.Arp.Tha = math.MaxUint64 }},
		{"Ip.Ttl", udp(), func(p *api.Packet) { p.Ip.Ttl = 256 }},
		{"Ip.Tos", udp(), func(p *api.Packet) { p.Ip.Tos = -1 }},
		{"Ip.Frag", udp(), func(p *api.Packet) { p.Ip.Frag = 65536 }},
		{"Ip.Proto", opaque(47, 0, ""), func(p *api.Packet) { p.Ip.Proto = 256 }},
		{"Ip.Options", udp(), func(p *api.Packet) { p.Ip.Options = "\x01\x01\x01" }},
		{"Ip.Options", udp(), func(p *api.Packet) { p.Ip.Options = strings.Repeat("\x01", 44) }},
		{"L4.Sport", udp(), func(p *api.Packet) { p.L4.Sport = 65536 }},
		{"L4.Seq", udp(), func(p *api.Packet) { p.L4.Seq = 1 }},
		{"L4.Type", echo(), func(p *api.Packet) { p.L4.Type = 256 }},
		{"L4.Flags", tcp(), func(p *api.Packet) { p.L4.Flags = 4096 }},
		{"L4.Dport", opaque(api.ProtoUdp, 0x2000, ""), func(p *api.Packet) { p.L4.Dport = 1 }},
	}
	for _, c := range cases {
		c.set(&c.p)
		unprinted(t, c.what, c.p, api.ErrArg)
		long := strings.Repeat("x", api.MaxFrame)
		if c.p.IsArp || c.p.IsIp {
			c.p.Pad = long
		} else {
			c.p.Body = long
		}
		unprinted(t, c.what+" ahead of too long", c.p, api.ErrArg)
	}
	p := udp()
	p.Body = strings.Repeat("x", api.MaxFrame+1)
	unprinted(t, "a body beside IPv4 ahead of too long", p, api.ErrArg)
}

// P5.2
func TestPorts(t *testing.T) {
	message := func(kind, code int) api.Packet {
		return ipv4(api.ProtoIcmp, 0, api.L4{Kind: api.KindIcmp, Type: kind, Code: code, Rest: 0xfedc5678})
	}
	noIp := udp()
	noIp.IsIp = false
	cases := []struct {
		what         string
		p            api.Packet
		sport, dport int
	}{
		{"UDP", udp(), 1000, 53},
		{"TCP", tcp(), 1000, 80},
		{"the greatest", ipv4(api.ProtoTcp, 0, api.L4{Kind: api.KindTcp, Sport: 65535, Dport: 65534}), 65535, 65534},
		{"an echo", message(8, 0), 0xfedc, 0xfedc},
		{"its reply", message(0, 0), 0xfedc, 0xfedc},
		{"an echo of another code", message(8, 3), 0xfedc, 0xfedc},
		{"unreachable", message(3, 0), 0, 0},
		{"time exceeded", message(11, 0), 0, 0},
		{"type 1", message(1, 8), 0, 0},
		{"type 9", message(9, 0), 0, 0},
		{"another protocol", opaque(47, 0, "\x01\x02\x03\x04"), 0, 0},
		{"a fragment", opaque(api.ProtoUdp, 0x2000, "\x03\xe8\x00\x35"), 0, 0},
		{"ARP", arp(), 0, 0},
		{"another type", other(0x86dd, "\x60"), 0, 0},
		{"nothing", api.Packet{}, 0, 0},
		{"no IPv4", noIp, 0, 0},
	}
	for _, c := range cases {
		if s, d := packet.Ports(c.p); s != c.sport || d != c.dport {
			t.Errorf("%s: %d, %d", c.what, s, d)
		}
	}
}

// hashed is FNV-1a, as the library has it, of a flow's bytes.
func hashed(s string) uint32 {
	h := fnv.New32a()
	h.Write(raw(s))
	return h.Sum32()
}

// P5.2
func TestFlow(t *testing.T) {
	noIp := udp()
	noIp.IsIp = false
	const ends = "0a 00 00 01 0a 00 00 02"
	cases := []struct {
		what string
		p    api.Packet
		want uint32
	}{
		{"UDP", udp(), hashed(ends + "11 03 e8 00 35")},
		{"TCP", tcp(), hashed(ends + "06 03 e8 00 50")},
		{"an echo", echo(), hashed(ends + "01 12 34 12 34")},
		{"a message", ipv4(api.ProtoIcmp, 0, api.L4{Kind: api.KindIcmp, Type: 3, Rest: 0x12340000}), hashed(ends + "01 00 00 00 00")},
		{"another protocol", opaque(47, 0, "\x01\x02"), hashed(ends + "2f 00 00 00 00")},
		{"a fragment", opaque(api.ProtoUdp, 0x2000, "\x03\xe8\x00\x35"), hashed(ends + "11 00 00 00 00")},
		{"ARP", arp(), 0},
		{"another type", other(0x86dd, ""), 0},
		{"nothing", api.Packet{}, 0},
		{"no IPv4", noIp, 0},
	}
	for _, c := range cases {
		if h := packet.Flow(c.p); h != c.want {
			t.Errorf("%s: %x, not %x", c.what, h, c.want)
		}
	}
}

func randomText(r *rand.Rand, n int) string {
	b := make([]byte, n)
	r.Read(b)
	return string(b)
}

func randomL4(r *rand.Rand, kind int) api.L4 {
	x := api.L4{Kind: kind, Data: randomText(r, r.Intn(30))}
	switch kind {
	case api.KindIcmp:
		x.Type, x.Code, x.Rest = r.Intn(256), r.Intn(256), r.Uint32()
	case api.KindUdp:
		x.Sport, x.Dport, x.NoSum = r.Intn(65536), r.Intn(65536), r.Intn(2) == 0
	case api.KindTcp:
		x.Sport, x.Dport, x.Seq, x.Ack = r.Intn(65536), r.Intn(65536), r.Uint32(), r.Uint32()
		x.Flags, x.Window, x.Urgent, x.Options = r.Intn(4096), r.Intn(65536), r.Intn(65536), randomText(r, 4*r.Intn(11))
	}
	return x
}

func randomIp(r *rand.Rand) (api.Ip, api.L4) {
	protos := [4]int{47, api.ProtoIcmp, api.ProtoUdp, api.ProtoTcp}
	kind := r.Intn(4)
	h := api.Ip{Tos: r.Intn(256), Id: r.Intn(65536), Ttl: r.Intn(256), Proto: protos[kind], Src: r.Uint32(), Dst: r.Uint32(), Options: randomText(r, 4*r.Intn(11))}
	h.Frag = r.Intn(8) << 13
	if r.Intn(4) == 0 {
		h.Frag |= r.Intn(1 << 13)
	}
	if h.Frag&0x3fff != 0 {
		kind = api.KindOpaque
	}
	return h, randomL4(r, kind)
}

// randomPacket is a packet that Print takes.
func randomPacket(r *rand.Rand) api.Packet {
	p := api.Packet{Eth: api.Eth{Dst: r.Uint64() & api.MaxMac, Src: r.Uint64() & api.MaxMac, Tagged: r.Intn(2) == 0}}
	if p.Eth.Tagged {
		p.Eth.Tag = r.Intn(65536)
	}
	switch r.Intn(6) {
	case 0:
		p.Eth.Type = []int{0, 0x86dd, 0x0801, 0x0805, 0xffff}[r.Intn(5)]
		p.Body = randomText(r, r.Intn(50))
	case 1:
		p.Eth.Type, p.IsArp, p.Pad = api.TypeArp, true, randomText(r, r.Intn(20))
		p.Arp = api.Arp{Op: r.Intn(65536), Sha: r.Uint64() & api.MaxMac, Spa: r.Uint32(), Tha: r.Uint64() & api.MaxMac, Tpa: r.Uint32()}
	default:
		p.Eth.Type, p.IsIp, p.Pad = api.TypeIp, true, randomText(r, r.Intn(20))
		p.Ip, p.L4 = randomIp(r)
	}
	return p
}

// P5.4
func TestBackAndForth(t *testing.T) {
	r := rand.New(rand.NewSource(1))
	for range 5000 {
		p := randomPacket(r)
		b, e := packet.Print(p)
		if e != api.OK {
			t.Fatalf("%#v: %d", p, e)
		}
		reads(t, "back", b, p)
	}
}

// P5.4: check sums that stand as FFFF.
func TestFormsOfZero(t *testing.T) {
	head := opaque(47, 0, "")
	head.Ip.Id = 0x66b9 // what the check sum would be otherwise
	message := ipv4(api.ProtoIcmp, 0, api.L4{Kind: api.KindIcmp, Type: 8, Rest: 0xf7ff0000})
	for _, c := range []struct {
		p  api.Packet
		at int
	}{{head, 24}, {message, 36}} {
		b, e := packet.Print(c.p)
		if e != api.OK || b[c.at] != 0 || b[c.at+1] != 0 {
			t.Fatalf("% x, %d", b, e)
		}
		reads(t, "0000", b, c.p)
		reads(t, "FFFF", with(b, c.at, 0xff, 0xff), c.p)
	}
}

// P5.4, P5.5: whatever bytes; what is read is printed as it was, but for check sums that stand as FFFF.
func TestWhateverBytes(t *testing.T) {
	r := rand.New(rand.NewSource(2))
	read := 0
	for range 30000 {
		b, e := packet.Print(randomPacket(r))
		if e != api.OK {
			t.Fatal(e)
		}
		for range r.Intn(3) {
			b[r.Intn(len(b))] ^= 1 << r.Intn(8)
		}
		if r.Intn(4) == 0 {
			b = b[:r.Intn(len(b)+1)]
		}
		p, e := packet.Parse(b)
		if e != api.OK {
			if p != (api.Packet{}) {
				t.Errorf("% x: %#v, %d", b, p, e)
			}
			continue
		}
		read++
		if c, e := packet.Print(p); !bytes.Equal(c, b) || e != api.OK {
			t.Errorf("% x came back as % x, %d", b, c, e)
		}
	}
	if read < 10000 {
		t.Error("too few were read", read)
	}
	for range 30000 {
		b := []byte(randomText(r, r.Intn(120)))
		if len(b) > 14 && r.Intn(4) > 0 {
			b = with(b, 12, 8, []byte{0, 6}[r.Intn(2)], 0x45, 0, 0, byte(len(b)-14))
		}
		if p, e := packet.Parse(b); e != api.OK && p != (api.Packet{}) {
			t.Errorf("% x: %#v, %d", b, p, e)
		}
	}
}

// randomFields is a packet whose fields nobody has looked after.
func randomFields(r *rand.Rand) api.Packet {
	number := func() int {
		return []int{0, 0, 1, 2, 3, 6, 8, 17, 255, 256, 65535, 65536, -1, math.MaxInt, math.MinInt, api.TypeIp, api.TypeArp}[r.Intn(17)]
	}
	yes := func() bool { return r.Intn(2) == 0 }
	p := api.Packet{Eth: api.Eth{Dst: r.Uint64() >> r.Intn(64), Src: r.Uint64() >> r.Intn(64), Tagged: yes(), Tag: number(), Type: number()}, IsArp: yes(), IsIp: yes()}
	p.Arp = api.Arp{Op: number(), Sha: r.Uint64() >> r.Intn(64)}
	p.Ip = api.Ip{Tos: number(), Id: number(), Frag: number(), Ttl: number(), Proto: number(), Src: r.Uint32(), Options: randomText(r, r.Intn(50))}
	p.L4 = api.L4{Kind: number(), Type: number(), Code: number(), Sport: number(), Options: randomText(r, r.Intn(50))}
	p.Body, p.Pad = randomText(r, r.Intn(3)), randomText(r, r.Intn(3))
	return p
}

// R1, R2
func TestWhateverFields(t *testing.T) {
	r := rand.New(rand.NewSource(3))
	for range 20000 {
		p := randomFields(r)
		if b, e := packet.Print(p); e != api.OK && len(b) != 0 {
			t.Errorf("%#v: % x, %d", p, b, e)
		}
		packet.Ports(p)
		packet.Flow(p)
		if q, ok := packet.Echo(p); !ok && q != (api.Packet{}) {
			t.Errorf("%#v: %#v", p, q)
		}
		if q, ok := packet.Error(p, r.Uint64(), r.Uint32(), r.Int(), -r.Int()); !ok && q != (api.Packet{}) {
			t.Errorf("%#v: %#v", p, q)
		}
	}
}

// R3
func TestArgumentsStay(t *testing.T) {
	for _, s := range samples() {
		room := append(slices.Clone(s.b), 9, 9, 9, 9)
		before := slices.Clone(room)
		p, e := packet.Parse(room[:len(s.b)])
		if !bytes.Equal(room, before) {
			t.Errorf("%s changed: % x", s.what, room)
		}
		clear(room)
		if p != s.p || e != api.OK {
			t.Errorf("%s: %#v, %d", s.what, p, e)
		}
	}
}

// R3: each answer is memory of its own, spare room and all.
func TestAnswersAreNew(t *testing.T) {
	for _, s := range samples() {
		a, _ := packet.Print(s.p)
		b, _ := packet.Print(s.p)
		a = a[:cap(a)]
		for i := range a {
			a[i] = 0x55
		}
		if !bytes.Equal(b, s.b) {
			t.Errorf("%s: % x", s.what, b)
		}
		prints(t, s.what, s.p, s.b)
	}
}
