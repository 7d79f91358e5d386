package l4_test

import (
	"bytes"
	"math"
	"math/rand"
	"slices"
	"strings"
	"testing"

	"skein/api"
	"skein/l4"
)

const src, dst = 0x0a000001, 0x0a000002

// A packet of each kind, its bytes from src to dst, its protocol, and where its check sum stands.
type sample struct {
	what    string
	x       api.L4
	b       []byte
	proto   int
	checkAt int
}

func samples() []sample {
	return []sample{
		{
			"ICMP", api.L4{Kind: api.KindIcmp, Type: 8, Rest: 0x12345678, Data: "ping!"},
			[]byte("\x08\x00\x8f\x82\x12\x34\x56\x78ping!"), api.ProtoIcmp, 2,
		},
		{
			"UDP", api.L4{Kind: api.KindUdp, Sport: 68, Dport: 67}, // the document's example
			[]byte{0, 0x44, 0, 0x43, 0, 8, 0xeb, 0x54}, api.ProtoUdp, 6,
		},
		{
			"TCP", api.L4{Kind: api.KindTcp, Sport: 1000, Dport: 80, Seq: 0x01020304, Ack: 0xa1a2a3a4, Flags: 0xb53, Window: 0x7210, Urgent: 0x0809, Options: "\x02\x04\x05\xb4", Data: "GET"},
			[]byte("\x03\xe8\x00\x50\x01\x02\x03\x04\xa1\xa2\xa3\xa4\x6b\x53\x72\x10\x15\xec\x08\x09\x02\x04\x05\xb4GET"), api.ProtoTcp, 16,
		},
	}
}

// with is a copy of b whose bytes from at on are others.
func with(b []byte, at int, c ...byte) []byte {
	b = slices.Clone(b)
	copy(b[at:], c)
	return b
}

// plainSum is the sum with carry of b, and of a pseudo head but for ICMP, that does not hang on package sum.
func plainSum(from, to uint32, proto int, b []byte) int {
	total := 0
	if proto != api.ProtoIcmp {
		total = int(from>>16) + int(from&0xffff) + int(to>>16) + int(to&0xffff) + proto + len(b)
	}
	for at, c := range b {
		total += int(c) << (8 * (1 - at%2))
	}
	if total == 0 {
		return 0
	}
	return (total-1)%0xffff + 1
}

// summed is a copy of b, from src to dst, whose check sum is right.
func summed(proto, checkAt int, b []byte) []byte {
	b = with(b, checkAt, 0, 0)
	check := 0xffff - plainSum(src, dst, proto, b)
	if proto == api.ProtoUdp && check == 0 {
		check = 0xffff
	}
	return with(b, checkAt, byte(check>>8), byte(check))
}

// reads asks that Decode answers a packet.
func reads(t *testing.T, what string, proto int, b []byte, want api.L4) {
	t.Helper()
	if x, e := l4.Decode(src, dst, proto, b); x != want || e != api.OK {
		t.Errorf("%s: % x: %#v, %d", what, b[:min(len(b), 64)], x, e)
	}
}

// refuses asks that Decode answers an error, and nothing beside it.
func refuses(t *testing.T, what string, proto int, b []byte, want api.Errno) {
	t.Helper()
	if x, e := l4.Decode(src, dst, proto, b); x != (api.L4{}) || e != want {
		t.Errorf("%s, %d bytes: %#v, %d, not %d", what, len(b), x, e, want)
	}
}

// P4.1, P4.2
func TestSamples(t *testing.T) {
	for _, s := range samples() {
		reads(t, s.what, s.proto, s.b, s.x)
		if e := l4.Check(s.x); e != api.OK {
			t.Error(s.what, e)
		}
		if b, e := l4.Encode(src, dst, s.x); !bytes.Equal(b, s.b) || e != api.OK {
			t.Errorf("%s: % x, %d", s.what, b, e)
		}
	}
	odd := []byte{0, 0x35, 0xff, 0xfe, 0, 11, 0x40, 0x77, 'x', 'y', 'z'}
	want := api.L4{Kind: api.KindUdp, Sport: 53, Dport: 65534, Data: "xyz"}
	if x, e := l4.Decode(0xc0a8fffe, 0x08080404, api.ProtoUdp, odd); x != want || e != api.OK {
		t.Errorf("%#v, %d", x, e)
	}
	if b, e := l4.Encode(0xc0a8fffe, 0x08080404, want); !bytes.Equal(b, odd) || e != api.OK {
		t.Errorf("% x, %d", b, e)
	}
}

// P4.1: of another protocol all bytes are data.
func TestDecodeOpaque(t *testing.T) {
	for _, proto := range []int{0, 2, 5, 7, 16, 18, 47, 58, 132, 255, 256, 257, 262, 273, -1, -17, math.MaxInt, math.MinInt, 1 << 32, 1<<32 + 17} {
		for _, data := range []string{"", "x", "\x00\xff some bytes \xfe", strings.Repeat("z", 70000)} {
			reads(t, "opaque", proto, []byte(data), api.L4{Kind: api.KindOpaque, Data: data})
		}
		reads(t, "nil", proto, nil, api.L4{})
	}
}

// P4.1
func TestDecodeGreatest(t *testing.T) {
	ones := func(n int) []byte { return bytes.Repeat([]byte{0xff}, n) }
	reads(t, "ICMP", api.ProtoIcmp, summed(api.ProtoIcmp, 2, ones(9)),
		api.L4{Kind: api.KindIcmp, Type: 255, Code: 255, Rest: math.MaxUint32, Data: "\xff"})
	reads(t, "UDP", api.ProtoUdp, summed(api.ProtoUdp, 6, with(ones(9), 4, 0, 9)),
		api.L4{Kind: api.KindUdp, Sport: 65535, Dport: 65535, Data: "\xff"})
	reads(t, "TCP", api.ProtoTcp, summed(api.ProtoTcp, 16, ones(61)),
		api.L4{Kind: api.KindTcp, Sport: 65535, Dport: 65535, Seq: math.MaxUint32, Ack: math.MaxUint32, Flags: 4095, Window: 65535, Urgent: 65535, Options: strings.Repeat("\xff", 40), Data: "\xff"})
	reads(t, "TCP without options", api.ProtoTcp, summed(api.ProtoTcp, 16, with(ones(20), 12, 0x5f)),
		api.L4{Kind: api.KindTcp, Sport: 65535, Dport: 65535, Seq: math.MaxUint32, Ack: math.MaxUint32, Flags: 4095, Window: 65535, Urgent: 65535})
	reads(t, "UDP of 65535 bytes", api.ProtoUdp, with(make([]byte, 65535), 4, 0xff, 0xff),
		api.L4{Kind: api.KindUdp, NoSum: true, Data: strings.Repeat("\x00", 65527)})
}

// P4.1: Code stands for itself.
func TestDecodeLeast(t *testing.T) {
	reads(t, "ICMP", api.ProtoIcmp, []byte{0, 0, 0xff, 0xff, 0, 0, 0, 0}, api.L4{Kind: api.KindIcmp})
	reads(t, "ICMP, a code", api.ProtoIcmp, []byte{3, 4, 0xfc, 0xfb, 0, 0, 0, 0}, api.L4{Kind: api.KindIcmp, Type: 3, Code: 4})
	reads(t, "UDP", api.ProtoUdp, []byte{0, 0, 0, 0, 0, 8, 0, 0}, api.L4{Kind: api.KindUdp, NoSum: true})
	reads(t, "TCP", api.ProtoTcp, summed(api.ProtoTcp, 16, with(make([]byte, 20), 12, 0x50)), api.L4{Kind: api.KindTcp})
}

// P4.1, R2
func TestDecodeShort(t *testing.T) {
	sizes := map[int]int{api.ProtoIcmp: 8, api.ProtoUdp: 8, api.ProtoTcp: 24}
	for _, s := range samples() {
		refuses(t, "nil", s.proto, nil, api.ErrShort)
		for n := range sizes[s.proto] {
			refuses(t, s.what, s.proto, s.b[:n], api.ErrShort)
		}
	}
	segment := samples()[2].b
	for n := range 20 {
		refuses(t, "too short ahead of too few words", api.ProtoTcp, with(segment, 12, 0x10)[:n], api.ErrShort)
	}
	most := with(make([]byte, 60), 12, 0xf0)
	refuses(t, "a head of 60 bytes, one too few", api.ProtoTcp, summed(api.ProtoTcp, 16, most[:59]), api.ErrShort)
	refuses(t, "too short ahead of its length", api.ProtoUdp, []byte{0, 0, 0, 0, 0, 6, 0}, api.ErrShort)
}

// P4.1, R2
func TestDecodeForm(t *testing.T) {
	datagram := append(samples()[1].b, 1, 2)
	for size := range byte(30) {
		if size == 10 {
			continue
		}
		refuses(t, "another length", api.ProtoUdp, summed(api.ProtoUdp, 6, with(datagram, 5, size)), api.ErrForm)
		refuses(t, "another length, ahead of the sum", api.ProtoUdp, with(datagram, 5, size), api.ErrForm)
		refuses(t, "another length, no sum", api.ProtoUdp, with(datagram, 5, size, 0, 0), api.ErrForm)
	}
	refuses(t, "another length's high byte", api.ProtoUdp, summed(api.ProtoUdp, 6, with(datagram, 4, 1, 10)), api.ErrForm)
	refuses(t, "65536 bytes", api.ProtoUdp, make([]byte, 65536), api.ErrForm)
	refuses(t, "65536 bytes and 8", api.ProtoUdp, with(make([]byte, 65544), 5, 8), api.ErrForm)
	segment := samples()[2].b
	for words := range byte(5) {
		refuses(t, "too few words", api.ProtoTcp, summed(api.ProtoTcp, 16, with(segment, 12, words<<4)), api.ErrForm)
		refuses(t, "too few words, ahead of the sum", api.ProtoTcp, with(segment, 12, words<<4), api.ErrForm)
		refuses(t, "too few words, 20 bytes", api.ProtoTcp, with(segment, 12, words<<4)[:20], api.ErrForm)
	}
}

// P4.1: whichever bit is turned, the sum tells, and so does another address but for ICMP.
func TestDecodeSum(t *testing.T) {
	for _, s := range samples() {
		for at := range s.b {
			if s.proto == api.ProtoUdp && (at == 4 || at == 5) || s.proto == api.ProtoTcp && at == 12 {
				continue // lengths, which are looked at first
			}
			for bit := range 8 {
				refuses(t, s.what, s.proto, with(s.b, at, s.b[at]^1<<bit), api.ErrSum)
			}
		}
		for _, ends := range [][2]uint32{{src + 1, dst}, {src, dst + 1}, {src ^ 1<<31, dst}, {src, dst ^ 1<<16}} {
			x, e := l4.Decode(ends[0], ends[1], s.proto, s.b)
			if s.proto == api.ProtoIcmp && (x != s.x || e != api.OK) {
				t.Errorf("%s between others: %#v, %d", s.what, x, e)
			}
			if s.proto != api.ProtoIcmp && (x != (api.L4{}) || e != api.ErrSum) {
				t.Errorf("%s between others: %#v, %d", s.what, x, e)
			}
		}
	}
	refuses(t, "0000 is no ICMP packet's none", api.ProtoIcmp, with(samples()[0].b, 2, 0, 0), api.ErrSum)
	refuses(t, "0000 is no TCP segment's none", api.ProtoTcp, with(samples()[2].b, 16, 0, 0), api.ErrSum)
	refuses(t, "FFFF is a sum", api.ProtoUdp, with(samples()[1].b, 6, 0xff, 0xff), api.ErrSum)
	refuses(t, "an odd byte more", api.ProtoIcmp, append(samples()[0].b, 1), api.ErrSum)
	refuses(t, "another protocol's pseudo head", api.ProtoTcp, summed(api.ProtoUdp, 16, samples()[2].b), api.ErrSum)
	noughts := make([]byte, 8)
	refuses(t, "all 0: the check sum should be FFFF", api.ProtoIcmp, noughts, api.ErrSum)
}

// P4.1, P4.2, P4.4: a UDP check sum of 0000 is none, whatever the addresses.
func TestNoSum(t *testing.T) {
	x := api.L4{Kind: api.KindUdp, Sport: 68, Dport: 67, NoSum: true, Data: "abc"}
	want := []byte{0, 0x44, 0, 0x43, 0, 11, 0, 0, 'a', 'b', 'c'}
	for _, end := range []uint32{0, 1, src, math.MaxUint32} {
		if b, e := l4.Encode(end, dst, x); !bytes.Equal(b, want) || e != api.OK {
			t.Errorf("% x, %d", b, e)
		}
		if y, e := l4.Decode(src, end, api.ProtoUdp, want); y != x || e != api.OK {
			t.Errorf("%#v, %d", y, e)
		}
	}
}

// P4.1, P4.2, P4.4: a check sum that comes to 0000. Of UDP it stands as FFFF; of the others as 0000, and FFFF is read, too.
func TestFormsOfZero(t *testing.T) {
	datagram := api.L4{Kind: api.KindUdp, Sport: 68 + 0xeb54, Dport: 67}
	b, e := l4.Encode(src, dst, datagram)
	if e != api.OK || b[6] != 0xff || b[7] != 0xff {
		t.Fatalf("% x, %d", b, e)
	}
	reads(t, "FFFF", api.ProtoUdp, b, datagram)
	datagram.NoSum = true
	reads(t, "0000", api.ProtoUdp, with(b, 6, 0, 0), datagram)

	message := api.L4{Kind: api.KindIcmp, Type: 8, Rest: 0xf7ff0000}
	segment := samples()[2].x
	segment.Window += 0x15ec
	for _, s := range []sample{{"ICMP", message, nil, api.ProtoIcmp, 2}, {"TCP", segment, nil, api.ProtoTcp, 16}} {
		b, e := l4.Encode(src, dst, s.x)
		if e != api.OK || b[s.checkAt] != 0 || b[s.checkAt+1] != 0 {
			t.Fatalf("%s: % x, %d", s.what, b, e)
		}
		reads(t, "0000", s.proto, b, s.x)
		reads(t, "FFFF", s.proto, with(b, s.checkAt, 0xff, 0xff), s.x)
	}
	// Where all else is 0, FFFF alone is right.
	if b, e := l4.Encode(src, dst, api.L4{Kind: api.KindIcmp}); !bytes.Equal(b, []byte{0, 0, 0xff, 0xff, 0, 0, 0, 0}) || e != api.OK {
		t.Errorf("% x, %d", b, e)
	}
}

// P4.2
func TestEncodeOpaque(t *testing.T) {
	for _, data := range []string{"", "x", "\x00\x01\xff", strings.Repeat("y", 65515)} {
		x := api.L4{Kind: api.KindOpaque, Data: data}
		if e := l4.Check(x); e != api.OK {
			t.Errorf("%d bytes: %d", len(data), e)
		}
		if b, e := l4.Encode(src, dst, x); string(b) != data || e != api.OK {
			t.Errorf("%d bytes: %d, %d", len(data), len(b), e)
		}
	}
}

// asked asks that Check and Encode answer the same error, and nothing is beside it.
func asked(t *testing.T, what string, x api.L4, want api.Errno) {
	t.Helper()
	if e := l4.Check(x); e != want {
		t.Errorf("%s: Check %d, not %d", what, e, want)
	}
	b, e := l4.Encode(src, dst, x)
	if e != want || want != api.OK && len(b) != 0 {
		t.Errorf("%s: Encode %d bytes, %d, not %d", what, len(b), e, want)
	}
}

// P4.2
func TestCheckKinds(t *testing.T) {
	for kind := -3; kind < 8; kind++ {
		want := api.ErrArg
		if 0 <= kind && kind <= 3 {
			want = api.OK
		}
		asked(t, "a kind", api.L4{Kind: kind}, want)
	}
	for _, kind := range []int{math.MaxInt, math.MinInt, 256, 1<<32 + 1} {
		asked(t, "a kind", api.L4{Kind: kind}, api.ErrArg)
	}
}

// The numbers of a packet by name: how they are set, how great they may be, whose they are.
type number struct {
	what  string
	set   func(x *api.L4, v int)
	most  int
	kinds []int
}

func numbers() []number {
	ports := []int{api.KindUdp, api.KindTcp}
	return []number{
		{"Type", func(x *api.L4, v int) { x.Type = v }, 255, []int{api.KindIcmp}},
		{"Code", func(x *api.L4, v int) { x.Code = v }, 255, []int{api.KindIcmp}},
		{"Sport", func(x *api.L4, v int) { x.Sport = v }, 65535, ports},
		{"Dport", func(x *api.L4, v int) { x.Dport = v }, 65535, ports},
		{"Flags", func(x *api.L4, v int) { x.Flags = v }, 4095, []int{api.KindTcp}},
		{"Window", func(x *api.L4, v int) { x.Window = v }, 65535, []int{api.KindTcp}},
		{"Urgent", func(x *api.L4, v int) { x.Urgent = v }, 65535, []int{api.KindTcp}},
	}
}

// P4.2
func TestCheckNumbers(t *testing.T) {
	for _, n := range numbers() {
		for kind := range 4 {
			x := api.L4{Kind: kind, Data: "data"}
			own := slices.Contains(n.kinds, kind)
			for _, v := range []int{0, 1, n.most} {
				n.set(&x, v)
				want := api.OK
				if v != 0 && !own {
					want = api.ErrArg
				}
				asked(t, n.what, x, want)
			}
			for _, v := range []int{-1, n.most + 1, math.MaxInt, math.MinInt, 1 << 32} {
				n.set(&x, v)
				asked(t, n.what, x, api.ErrArg)
			}
		}
	}
}

// P4.2: fields that are no int, of other kinds.
func TestCheckForeign(t *testing.T) {
	cases := []struct {
		what  string
		set   func(x *api.L4)
		owner int
	}{
		{"Rest", func(x *api.L4) { x.Rest = 1 }, api.KindIcmp},
		{"Rest", func(x *api.L4) { x.Rest = 1 << 31 }, api.KindIcmp},
		{"NoSum", func(x *api.L4) { x.NoSum = true }, api.KindUdp},
		{"Seq", func(x *api.L4) { x.Seq = 1 }, api.KindTcp},
		{"Ack", func(x *api.L4) { x.Ack = math.MaxUint32 }, api.KindTcp},
		{"Options", func(x *api.L4) { x.Options = "\x01\x01\x01\x00" }, api.KindTcp},
	}
	for _, c := range cases {
		for kind := range 4 {
			x := api.L4{Kind: kind}
			c.set(&x)
			want := api.ErrArg
			if kind == c.owner {
				want = api.OK
			}
			asked(t, c.what, x, want)
		}
	}
}

// P4.2
func TestCheckOptions(t *testing.T) {
	for n := range 100 {
		want := api.ErrArg
		if n <= 40 && n%4 == 0 {
			want = api.OK
		}
		x := api.L4{Kind: api.KindTcp, Options: strings.Repeat("\x01", n)}
		asked(t, "options", x, want)
		if b, _ := l4.Encode(src, dst, x); want == api.OK && (len(b) != 20+n || int(b[12]>>4) != 5+n/4) {
			t.Errorf("%d bytes of options: % x", n, b)
		}
	}
}

// P4.2: 65515 bytes in all, and one more.
func TestCheckSizes(t *testing.T) {
	cases := []struct {
		what string
		x    api.L4
		most int
	}{
		{"opaque", api.L4{Kind: api.KindOpaque}, 65515},
		{"ICMP", api.L4{Kind: api.KindIcmp}, 65507},
		{"UDP", api.L4{Kind: api.KindUdp}, 65507},
		{"UDP without a sum", api.L4{Kind: api.KindUdp, NoSum: true}, 65507},
		{"TCP", api.L4{Kind: api.KindTcp}, 65495},
		{"TCP with options", api.L4{Kind: api.KindTcp, Options: strings.Repeat("\x01", 40)}, 65455},
	}
	for _, c := range cases {
		c.x.Data = strings.Repeat("d", c.most)
		asked(t, c.what, c.x, api.OK)
		b, _ := l4.Encode(src, dst, c.x)
		if len(b) != 65515 {
			t.Errorf("%s: %d bytes", c.what, len(b))
		}
		proto, _ := l4.Proto(c.x.Kind)
		reads(t, c.what, proto, b, c.x)
		for _, more := range []int{1, 20, 21, 1 << 16} {
			c.x.Data = strings.Repeat("d", c.most+more)
			asked(t, c.what, c.x, api.ErrArg)
		}
	}
}

// P4.3
func TestProto(t *testing.T) {
	want := map[int]int{api.KindIcmp: 1, api.KindUdp: 17, api.KindTcp: 6}
	for _, kind := range []int{-1, 0, 1, 2, 3, 4, 5, 6, 17, 256, 257, math.MaxInt, math.MinInt, 1<<32 + 1} {
		proto, ok := l4.Proto(kind)
		if wanted, is := want[kind]; proto != wanted || ok != is {
			t.Errorf("%d: %d, %v", kind, proto, ok)
		}
	}
}

func randomPacket(r *rand.Rand) api.L4 {
	text := func(n int) string {
		b := make([]byte, n)
		r.Read(b)
		return string(b)
	}
	x := api.L4{Kind: r.Intn(4), Data: text(r.Intn(40))}
	switch x.Kind {
	case api.KindIcmp:
		x.Type, x.Code, x.Rest = r.Intn(256), r.Intn(256), r.Uint32()
	case api.KindUdp:
		x.Sport, x.Dport, x.NoSum = r.Intn(65536), r.Intn(65536), r.Intn(2) == 0
	case api.KindTcp:
		x.Sport, x.Dport, x.Seq, x.Ack = r.Intn(65536), r.Intn(65536), r.Uint32(), r.Uint32()
		x.Flags, x.Window, x.Urgent, x.Options = r.Intn(4096), r.Intn(65536), r.Intn(65536), text(4*r.Intn(11))
	}
	return x
}

// P4.4
func TestBackAndForth(t *testing.T) {
	r := rand.New(rand.NewSource(1))
	for range 4000 {
		x, from, to := randomPacket(r), r.Uint32(), r.Uint32()
		b, e := l4.Encode(from, to, x)
		if e != api.OK {
			t.Fatalf("%#v: %d", x, e)
		}
		proto, ok := l4.Proto(x.Kind)
		if ok && !x.NoSum && plainSum(from, to, proto, b) != 0xffff {
			t.Errorf("%#v: % x", x, b)
		}
		if y, e := l4.Decode(from, to, proto, b); y != x || e != api.OK {
			t.Errorf("%#v came back as %#v, %d", x, y, e)
		}
	}
}

// P4.4: what Decode reads, of whatever bytes, Encode writes.
func TestBytesBackAndForth(t *testing.T) {
	r := rand.New(rand.NewSource(2))
	read := 0
	for range 4000 {
		b := make([]byte, 8+r.Intn(90))
		r.Read(b)
		s := samples()[r.Intn(3)]
		if s.proto == api.ProtoUdp {
			b[4], b[5] = 0, byte(len(b))
		}
		if len(b) > s.checkAt+1 {
			b = summed(s.proto, s.checkAt, b)
		}
		x, e := l4.Decode(src, dst, s.proto, b)
		if e != api.OK {
			continue
		}
		read++
		if c, e := l4.Encode(src, dst, x); !bytes.Equal(c, b) || e != api.OK {
			t.Errorf("%s: % x came back as % x, %d", s.what, b, c, e)
		}
	}
	if read < 2000 {
		t.Error("too few were packets", read)
	}
}

// R1, R2
func TestWhateverBytes(t *testing.T) {
	r := rand.New(rand.NewSource(3))
	for range 20000 {
		b := make([]byte, r.Intn(70))
		r.Read(b)
		if x, e := l4.Decode(r.Uint32(), r.Uint32(), r.Intn(20), b); e != api.OK && x != (api.L4{}) {
			t.Errorf("% x: %#v, %d", b, x, e)
		}
	}
}

// R3
func TestArgumentsStay(t *testing.T) {
	for _, s := range samples() {
		room := append(slices.Clone(s.b), 9, 9, 9, 9)
		before := slices.Clone(room)
		x, e := l4.Decode(src, dst, s.proto, room[:len(s.b)])
		if !bytes.Equal(room, before) {
			t.Errorf("%s changed: % x", s.what, room)
		}
		clear(room)
		if x != s.x || e != api.OK {
			t.Errorf("%s: %#v, %d", s.what, x, e)
		}
	}
	segment := samples()[2].b
	refuses(t, "what stands behind the end", api.ProtoTcp, segment[:23], api.ErrShort)
	data := []byte("opaque")
	x, _ := l4.Decode(src, dst, 99, data)
	clear(data)
	if x.Data != "opaque" {
		t.Error("kept", x.Data)
	}
}

// R3: each answer is memory of its own, spare room and all.
func TestAnswersAreNew(t *testing.T) {
	for _, x := range []api.L4{samples()[0].x, samples()[1].x, samples()[2].x, {Data: "opaque"}} {
		a, _ := l4.Encode(src, dst, x)
		b, _ := l4.Encode(src, dst, x)
		want := slices.Clone(b)
		a = a[:cap(a)]
		for i := range a {
			a[i] = 0x55
		}
		c, _ := l4.Encode(src, dst, x)
		if !bytes.Equal(b, want) || !bytes.Equal(c, want) {
			t.Errorf("% x, then % x and % x", want, b, c)
		}
	}
}
