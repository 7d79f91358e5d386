package geneve_test

import (
	"bytes"
	"encoding/hex"
	"math"
	"math/rand"
	"slices"
	"strings"
	"testing"

	"skein/api"
	"skein/geneve"
)

// A tunnel, and its packet.
type sample struct {
	what string
	t    api.Tunnel
	b    []byte
}

// raw is the bytes that a text in hexadecimal says; spaces play no part.
func raw(s string) []byte {
	b, err := hex.DecodeString(strings.ReplaceAll(s, " ", ""))
	if err != nil {
		panic(err)
	}
	return b
}

// full is a tunnel that has something of everything.
func full() api.Tunnel {
	return api.Tunnel{
		Src: 0xc0a80001, Dst: 0xc0a8fffe, Sport: 0xfedc, Vni: 0xabcdef, Oam: true,
		Options: []api.Option{
			{Class: 0x0102, Code: 0x80, Data: "\x00\x03\x00\x04"},
			{Class: 0xfffe, Code: 0x7f},
			{Class: 1, Code: 2, Data: "abcdefgh"},
		},
		Frame: "xyz",
	}
}

func fullBytes() []byte {
	return raw("45 00 00 3f 00 00 40 00 40 11 b9 5d c0 a8 00 01 c0 a8 ff fe" +
		"fe dc 17 c1 00 2b 00 00" +
		"06 c0 65 58 ab cd ef 00" +
		"01 02 80 01 00 03 00 04" + "ff fe 7f 00" + "00 01 02 02 61 62 63 64 65 66 67 68" +
		"78 79 7a")
}

func samples() []sample {
	return []sample{
		{
			"the document's example",
			api.Tunnel{Src: 0x0aff0001, Dst: 0x0aff0002, Sport: 49152, Vni: 5, Frame: "\x01\x02\x03\x04\x05\x06\x07\x08\x09\x0a\x0b\x0c\x0d\x0e"},
			raw("45 00 00 32 00 00 40 00 40 11 24 bb 0a ff 00 01 0a ff 00 02 c0 00 17 c1 00 1e 00 00" +
				"00 00 65 58 00 00 05 00 01 02 03 04 05 06 07 08 09 0a 0b 0c 0d 0e"),
		},
		{"all there may be", full(), fullBytes()},
		{
			"noughts, no frame, an option that is not critical",
			api.Tunnel{Src: 1, Dst: 2, Options: []api.Option{{Class: 0x1234, Code: 0x56}}},
			raw("45 00 00 28 00 00 40 00 40 11 3a c3 00 00 00 01 00 00 00 02 00 00 17 c1 00 14 00 00" +
				"01 00 65 58 00 00 00 00 12 34 56 00"),
		},
	}
}

// same tells whether two tunnels are; no options are the same as nil.
func same(a, b api.Tunnel) bool {
	return a.Src == b.Src && a.Dst == b.Dst && a.Sport == b.Sport && a.Vni == b.Vni &&
		a.Oam == b.Oam && a.Frame == b.Frame && slices.Equal(a.Options, b.Options)
}

// plainSum adds b's words one by one: a sum with carry that does not hang on package sum.
func plainSum(b []byte) int {
	s := 0
	for i, c := range b {
		s += int(c) << (8 * (1 - i%2))
	}
	for s > 0xffff {
		s = s&0xffff + s>>16
	}
	return s
}

// summed is a copy of b with the check sum that its IPv4 head should have.
func summed(b []byte) []byte {
	b = slices.Clone(b)
	size := int(b[0]&15) * 4
	b[10], b[11] = 0, 0
	check := 0xffff - plainSum(b[:size])
	b[10], b[11] = byte(check>>8), byte(check)
	return b
}

// with is a copy of b with other bytes from a place on, and the check sum right.
func with(b []byte, at int, other ...byte) []byte {
	b = slices.Clone(b)
	copy(b[at:], other)
	return summed(b)
}

// carrying is a packet as tunnels have it, with that as the datagram's data.
func carrying(data []byte) []byte {
	b := raw("45 00 00 00 00 00 40 00 40 11 00 00 0a ff 00 01 0a ff 00 02 c0 00 17 c1 00 00 00 00")
	b = append(b, data...)
	b[2], b[3] = byte(len(b)>>8), byte(len(b))
	b[24], b[25] = byte((len(b)-20)>>8), byte(len(b)-20)
	return summed(b)
}

// takes asks that Encap and Decap of a tunnel are each other's.
func takes(t *testing.T, what string, x api.Tunnel) []byte {
	t.Helper()
	b, e := geneve.Encap(x)
	if e != api.OK {
		t.Errorf("%s: %d", what, e)
		return nil
	}
	if y, e := geneve.Decap(b); !same(x, y) || e != api.OK {
		t.Errorf("%s: %#v came back as %#v, %d", what, x, y, e)
	}
	return b
}

// refusesEncap asks for that error and nothing else.
func refusesEncap(t *testing.T, what string, x api.Tunnel, want api.Errno) {
	t.Helper()
	if b, e := geneve.Encap(x); len(b) != 0 || e != want {
		t.Errorf("%s: %d bytes, %d, not %d", what, len(b), e, want)
	}
}

// refusesDecap asks for that error and nothing else.
func refusesDecap(t *testing.T, what string, b []byte, want api.Errno) {
	t.Helper()
	if x, e := geneve.Decap(b); !same(x, api.Tunnel{}) || e != want {
		t.Errorf("%s, % x: %#v, %d, not %d", what, b, x, e, want)
	}
}

// P7.1
func TestEncap(t *testing.T) {
	for _, s := range samples() {
		if b, e := geneve.Encap(s.t); !bytes.Equal(b, s.b) || e != api.OK {
			t.Errorf("%s: % x, %d", s.what, b, e)
		}
	}
}

// P7.1
func TestDecap(t *testing.T) {
	for _, s := range samples() {
		if x, e := geneve.Decap(s.b); !same(x, s.t) || e != api.OK {
			t.Errorf("%s: %#v, %d", s.what, x, e)
		}
	}
}

// P7.1: the bits O and C say what they should, each for itself.
func TestFlags(t *testing.T) {
	for _, c := range []struct {
		oam   bool
		codes []int
		want  byte
	}{
		{false, nil, 0}, {true, nil, 0x80},
		{false, []int{0, 0x7f}, 0}, {true, []int{0x7f, 1}, 0x80},
		{false, []int{0x80}, 0x40}, {true, []int{0xff}, 0xc0},
		{false, []int{1, 2, 0x80}, 0x40}, {false, []int{0x80, 2, 3}, 0x40}, {true, []int{1, 0xc0, 0xc0, 3}, 0xc0},
	} {
		x := api.Tunnel{Oam: c.oam}
		for _, code := range c.codes {
			x.Options = append(x.Options, api.Option{Code: code})
		}
		if b := takes(t, "flags", x); len(b) < 30 || b[29] != c.want {
			t.Errorf("%v, %v: % x", c.oam, c.codes, b)
		}
	}
}

// P7.1: numbers and options at their limits.
func TestEncapAtLimits(t *testing.T) {
	for _, sport := range []int{0, 1, 65535} {
		x := full()
		x.Sport = sport
		if b := takes(t, "Sport", x); int(b[20])<<8|int(b[21]) != sport {
			t.Errorf("Sport %d: % x", sport, b)
		}
	}
	for _, vni := range []int{0, 1, api.MaxVni} {
		x := full()
		x.Vni = vni
		if b := takes(t, "Vni", x); int(b[32])<<16|int(b[33])<<8|int(b[34]) != vni || b[35] != 0 {
			t.Errorf("Vni %d: % x", vni, b)
		}
	}
	for _, o := range []api.Option{
		{}, {Class: 65535}, {Code: 255}, {Code: 0x7f}, {Code: 0x80}, {Data: "data"},
		{Class: 65535, Code: 255, Data: strings.Repeat("\xff", 124)},
	} {
		b := takes(t, "an option", api.Tunnel{Options: []api.Option{o}})
		want := []byte{byte(o.Class >> 8), byte(o.Class), byte(o.Code), byte(len(o.Data) / 4)}
		if !bytes.Equal(b[36:], append(want, o.Data...)) || b[28] != byte(1+len(o.Data)/4) {
			t.Errorf("%#v: % x", o, b)
		}
	}
}

// sized is options with so many bytes of Data each.
func sized(sizes ...int) []api.Option {
	var l []api.Option
	for i, n := range sizes {
		l = append(l, api.Option{Class: i, Code: i % 200, Data: strings.Repeat(string(rune('a'+i%20)), n)})
	}
	return l
}

// P7.1: 252 bytes of options, and no more.
func TestManyOptions(t *testing.T) {
	for _, l := range [][]api.Option{sized(124, 120), sized(120, 124), sized(116, 116, 8), sized(make([]int, 63)...)} {
		b := takes(t, "252 bytes of options", api.Tunnel{Options: l, Frame: "f"})
		if len(b) != 36+252+1 || b[28] != 63 {
			t.Errorf("%d bytes, the head says %d", len(b), b[28])
		}
	}
	for _, l := range [][]api.Option{sized(124, 124), sized(120, 120, 4), sized(make([]int, 64)...), sized(124, 124, 124), sized(make([]int, 1000)...)} {
		refusesEncap(t, "too many options", api.Tunnel{Options: l}, api.ErrArg)
	}
}

// P7.1
func TestEncapRefuses(t *testing.T) {
	for _, v := range []int{-1, 65536, 65536 + 5, -65536, math.MinInt, math.MaxInt} {
		x := full()
		x.Sport = v
		refusesEncap(t, "Sport", x, api.ErrArg)
		for i := range 3 {
			x = full()
			x.Options[i].Class = v
			refusesEncap(t, "Class", x, api.ErrArg)
		}
	}
	for _, v := range []int{-1, 1 << 24, 1<<24 + 5, -1 << 24, math.MinInt, math.MaxInt} {
		x := full()
		x.Vni = v
		refusesEncap(t, "Vni", x, api.ErrArg)
	}
	for _, v := range []int{-1, 256, 256 + 0x80, -256, math.MinInt, math.MaxInt} {
		for i := range 3 {
			x := full()
			x.Options[i].Code = v
			refusesEncap(t, "Code", x, api.ErrArg)
		}
	}
	for _, n := range []int{1, 2, 3, 5, 6, 7, 121, 122, 123, 125, 126, 127, 128, 132, 252, 10000} {
		for i := range 3 {
			x := full()
			x.Options[i].Data = strings.Repeat("d", n)
			refusesEncap(t, "Data", x, api.ErrArg)
		}
	}
}

// P7.1: a frame of MaxFrame bytes, and one more; R2: what else is wrong is told first.
func TestLongFrames(t *testing.T) {
	x := full()
	for _, n := range []int{0, 1, 13, 14, 15, api.MaxFrame - 1, api.MaxFrame} {
		x.Frame = strings.Repeat("f", n)
		if b := takes(t, "a frame", x); len(b) != 60+n || int(b[2])<<8|int(b[3]) != len(b) {
			t.Errorf("%d bytes of frame: %d", n, len(b))
		}
	}
	x.Options = sized(124, 120)
	x.Frame = strings.Repeat("f", api.MaxFrame)
	takes(t, "all that there is room for", x)
	for _, n := range []int{api.MaxFrame + 1, 65535, 70000} {
		x.Frame = strings.Repeat("f", n)
		refusesEncap(t, "a long frame", x, api.ErrLong)
	}
	x.Vni = -1
	refusesEncap(t, "a long frame, and Vni", x, api.ErrArg)
	x.Vni, x.Options = 0, sized(124, 124)
	refusesEncap(t, "a long frame, and options", x, api.ErrArg)
}

// P7.1: what the layers below refuse is told ahead of all else.
func TestDecapTellsOfLayersBelow(t *testing.T) {
	b := fullBytes()
	refusesDecap(t, "nil", nil, api.ErrShort)
	for n := range b {
		refusesDecap(t, "cut off", b[:n], api.ErrShort)
	}
	refusesDecap(t, "another version", with(b, 0, 0x65), api.ErrForm)
	refusesDecap(t, "four words", with(b, 0, 0x44), api.ErrForm)
	refusesDecap(t, "a total length below the head's", with(b, 2, 0, 19), api.ErrForm)
	refusesDecap(t, "a total length beyond the bytes", with(b, 2, 0, 64), api.ErrShort)
	other := slices.Clone(b)
	other[11]++
	refusesDecap(t, "another check sum", other, api.ErrSum)
	refusesDecap(t, "no room for UDP's head", with(b, 2, 0, 27), api.ErrShort)
	refusesDecap(t, "UDP's length below", with(b, 24, 0, 0x2a), api.ErrForm)
	refusesDecap(t, "UDP's length above", with(b, 24, 0, 0x2c), api.ErrForm)
	refusesDecap(t, "UDP's length 0", with(b, 24, 0, 0), api.ErrForm)
	refusesDecap(t, "a total length below UDP's", with(b, 2, 0, 62), api.ErrForm)
	refusesDecap(t, "UDP's check sum", with(b, 26, 1, 2), api.ErrSum)
	refusesDecap(t, "ICMP's check sum", with(b, 9, api.ProtoIcmp), api.ErrSum)
	refusesDecap(t, "TCP's check sum", with(b, 9, api.ProtoTcp), api.ErrSum)
	refusesDecap(t, "fewer than TCP's words", with(with(b, 32, 0x4b), 9, api.ProtoTcp), api.ErrForm)
	// A fragment is refused by what stands in it too: no layer below looks at Frag.
	refusesDecap(t, "a fragment with another length", with(with(b, 24, 0, 0x2a), 6, 0x20, 1), api.ErrForm)
}

// withUdpSum is a copy of b whose datagram has the check sum that it would have if there were one.
func withUdpSum(b []byte) []byte {
	b = slices.Clone(b)
	b[26], b[27] = 0, 0
	all := append(slices.Clone(b[12:20]), 0, 17, b[24], b[25])
	check := 0xffff - plainSum(append(all, b[20:]...))
	b[26], b[27] = byte(check>>8), byte(check)
	return b
}

// P7.1: heads of IPv4 and UDP that are right, but not a tunnel's.
func TestDecapRefusesOtherHeads(t *testing.T) {
	b := fullBytes()
	if x, e := geneve.Decap(with(b, 0)); !same(x, full()) || e != api.OK {
		t.Fatal("the helper does not write what it should", x, e)
	}
	for _, c := range []byte{1, 0x80, 0xff} {
		refusesDecap(t, "Tos", with(b, 1, c), api.ErrTunnel)
		refusesDecap(t, "Id", with(b, 4, c), api.ErrTunnel)
		refusesDecap(t, "Id", with(b, 5, c), api.ErrTunnel)
		refusesDecap(t, "Frag's offset", with(b, 7, c), api.ErrTunnel)
	}
	for _, c := range []byte{0, 0x20, 0x60, 0x80, 0xc0, 0x41} {
		refusesDecap(t, "Frag", with(b, 6, c), api.ErrTunnel)
	}
	for _, c := range []byte{0, 1, 63, 65, 255} {
		refusesDecap(t, "Ttl", with(b, 8, c), api.ErrTunnel)
	}
	for _, c := range []byte{0, 2, 16, 18, 255} {
		refusesDecap(t, "a protocol that nobody reads", with(b, 9, c), api.ErrTunnel)
	}
	refusesDecap(t, "another port", with(b, 22, 0x17, 0xc0), api.ErrTunnel)
	refusesDecap(t, "another port", with(b, 22, 0x18, 0xc1), api.ErrTunnel)
	refusesDecap(t, "another port", with(b, 22, 0, 0), api.ErrTunnel)
	refusesDecap(t, "the ports exchanged", with(with(b, 20, 0x17, 0xc1), 22, 0xfe, 0xdc), api.ErrTunnel)
	refusesDecap(t, "a check sum that stands", withUdpSum(b), api.ErrTunnel)
	options := with(slices.Insert(slices.Clone(b), 20, 1, 1, 1, 1), 0, 0x46)
	refusesDecap(t, "options of IPv4", with(options, 2, 0, 0x43), api.ErrTunnel)
	for _, n := range []int{1, 2, 100} {
		refusesDecap(t, "bytes behind the total length", append(slices.Clone(b), make([]byte, n)...), api.ErrTunnel)
	}
}

// P7.1: a check sum of 0000 may stand as FFFF in IPv4, but Encap writes no such one.
func TestDecapRefusesOtherFormOfSum(t *testing.T) {
	x := api.Tunnel{Src: 0x0a000001, Dst: 0x30c9, Sport: 1, Vni: 1}
	b := takes(t, "a check sum of 0000", x)
	if b[10] != 0 || b[11] != 0 {
		t.Fatalf("% x", b)
	}
	b[10], b[11] = 0xff, 0xff
	refusesDecap(t, "FFFF", b, api.ErrTunnel)
}

// P7.1: packets of ICMP and TCP that are right, and carry a tunnel's head where UDP does.
func TestDecapRefusesOtherProtocols(t *testing.T) {
	icmp := with(carrying(raw("00 00 65 58 00 00 05 00")), 9, api.ProtoIcmp)
	icmp[22], icmp[23] = 0, 0
	check := 0xffff - plainSum(icmp[20:])
	icmp[22], icmp[23] = byte(check>>8), byte(check)
	refusesDecap(t, "ICMP", icmp, api.ErrTunnel)
	segment := raw("45 00 00 30 00 00 40 00 40 06 00 00 0a ff 00 01 0a ff 00 02" +
		"c0 00 17 c1 00 00 00 00 00 00 00 00 50 00 00 00 00 00 00 00" + "00 00 65 58 00 00 05 00")
	all := append(slices.Clone(segment[12:20]), 0, api.ProtoTcp, 0, 28)
	check = 0xffff - plainSum(append(all, segment[20:]...))
	segment[36], segment[37] = byte(check>>8), byte(check)
	refusesDecap(t, "TCP", summed(segment), api.ErrTunnel)
}

// P7.1: datagrams to the right port whose data is no head, options and frame.
func TestDecapRefusesOtherData(t *testing.T) {
	const head = "00 00 65 58 00 00 05 00"
	right := raw(head)
	if x, e := geneve.Decap(carrying(right)); x.Vni != 5 || e != api.OK {
		t.Fatal("the helper does not write what it should", x, e)
	}
	for n := range 8 {
		refusesDecap(t, "too few bytes for a head", carrying(right[:n]), api.ErrTunnel)
	}
	for _, c := range []struct{ what, data string }{
		{"version 1", "40 00 65 58 00 00 05 00"},
		{"version 2", "80 00 65 58 00 00 05 00"},
		{"critical, without options", "00 40 65 58 00 00 05 00"},
		{"critical, but none of the options is", "01 40 65 58 00 00 05 00 01 02 7f 00"},
		{"not critical, but an option is", "01 00 65 58 00 00 05 00 01 02 80 00"},
		{"not critical, but the last option is", "02 80 65 58 00 00 05 00 01 02 00 00 01 02 ff 00"},
		{"one of six bits that should be 0", "00 20 65 58 00 00 05 00"},
		{"one of six bits that should be 0", "00 01 65 58 00 00 05 00"},
		{"all of them", "00 3f 65 58 00 00 05 00"},
		{"another protocol", "00 00 65 59 00 00 05 00"},
		{"another protocol", "00 00 08 00 00 00 05 00"},
		{"a last byte that should be 0", "00 00 65 58 00 00 05 01"},
		{"a last byte that should be 0", "00 00 65 58 00 00 05 80"},
		{"options that are not there", "01 00 65 58 00 00 05 00"},
		{"options that are not all there", "02 00 65 58 00 00 05 00 01 02 03 01 00 00 00"},
		{"as many as may be, and one byte fewer", "3f 00 65 58 00 00 05 00" + strings.Repeat(" 01 02 03 00", 62) + "01 02 03"},
		{"an option that ends beyond the options", "01 00 65 58 00 00 05 00 01 02 03 01 61 62 63 64"},
		{"a second one that does", "03 00 65 58 00 00 05 00 01 02 03 00 01 02 03 02 61 62 63 64 65 66 67 68"},
		{"one that ends beyond the bytes", "01 00 65 58 00 00 05 00 01 02 03 1f"},
		{"one of three bits that should be 0", "01 00 65 58 00 00 05 00 01 02 03 20"},
		{"one of three bits that should be 0", "01 00 65 58 00 00 05 00 01 02 03 80"},
		{"all of them", "02 00 65 58 00 00 05 00 01 02 03 e1 61 62 63 64"},
	} {
		data := raw(c.data)
		refusesDecap(t, c.what, carrying(data), api.ErrTunnel)
		data[1] ^= 0x80
		refusesDecap(t, c.what+", with another bit O", carrying(data), api.ErrTunnel)
	}
}

// P7.1: what is behind the options is the frame, whatever its first bytes are.
func TestDecapTakesFrame(t *testing.T) {
	b := carrying(raw("01 00 65 58 00 00 05 00 01 02 03 00 01 02 03 04"))
	x, e := geneve.Decap(b)
	want := api.Tunnel{Src: 0x0aff0001, Dst: 0x0aff0002, Sport: 0xc000, Vni: 5, Options: []api.Option{{Class: 0x0102, Code: 3}}, Frame: "\x01\x02\x03\x04"}
	if !same(x, want) || e != api.OK {
		t.Errorf("%#v, %d", x, e)
	}
	long := carrying(append(raw("00 00 65 58 00 00 05 00"), make([]byte, api.MaxFrame)...))
	if x, e := geneve.Decap(long); len(x.Frame) != api.MaxFrame || e != api.OK {
		t.Error("a frame of MaxFrame bytes", len(x.Frame), e)
	}
	long = carrying(append(raw("00 00 65 58 00 00 05 00"), make([]byte, api.MaxFrame+1)...))
	if x, e := geneve.Decap(long); !same(x, api.Tunnel{}) || e != api.ErrTunnel {
		t.Error("a frame of one byte more", len(x.Frame), e)
	}
	longest := carrying(append(raw("00 00 65 58 00 00 05 00"), make([]byte, 65535-36)...))
	if x, e := geneve.Decap(longest); !same(x, api.Tunnel{}) || e != api.ErrTunnel {
		t.Error("a frame of as many bytes as UDP takes", len(x.Frame), e)
	}
}

// free tells whether a bit of full's packet may be either, and it is a tunnel's still.
func free(at int, bit byte) bool {
	switch {
	case at >= 12 && at < 22, at >= 32 && at < 35: // Src, Dst, Sport, Vni
		return true
	case at == 29: // of the flags Oam
		return bit == 0x80
	case at < 36: // the rest of the heads
		return false
	case at == 38 || at == 46 || at == 50: // Codes, whose highest bit hangs together with C
		return bit != 0x80 || at != 38
	case at == 39 || at == 47 || at == 51: // bits 0
		return false
	}
	return true
}

// isLength tells of the bits that say how long options are: with others of them there may be other options.
func isLength(at int, bit byte) bool {
	return at == 28 && bit < 0x40 || (at == 39 || at == 47 || at == 51) && bit < 0x20
}

// P7.1, P7.3: each bit turned for itself.
func TestDecapOfTurnedBits(t *testing.T) {
	b := fullBytes()
	for at := range b {
		for bit := byte(1); bit != 0; bit <<= 1 {
			c := slices.Clone(b)
			c[at] ^= bit
			if at < 20 && at != 10 && at != 11 && at != 0 {
				c = summed(c)
			}
			x, e := geneve.Decap(c)
			if (e == api.OK) != free(at, bit) && !isLength(at, bit) {
				t.Errorf("byte %d, bit %x: %d", at, bit, e)
			}
			if e != api.OK {
				continue
			}
			if d, e := geneve.Encap(x); !bytes.Equal(c, d) || e != api.OK || same(x, full()) {
				t.Errorf("% x came back as % x, %d", c, d, e)
			}
		}
	}
}

// P7.2
func TestKey(t *testing.T) {
	l := []api.Option{
		{Class: 1, Code: 2, Data: "abc"},
		{Class: 1, Code: 3, Data: "\x01\x02\x03\x04"},
		{Class: 2, Code: 2, Data: "\xff\xfe\xfd\xfc"},
		{Class: 1, Code: 2, Data: "\x80\x00\x00\x01"},
		{Class: 1, Code: 2, Data: "\x00\x00\x00\x05"},
		{Class: 7, Code: 7},
		{Class: 8, Code: 8, Data: "abcdefgh"},
		{Class: -1, Code: 1 << 40, Data: "\x00\x00\x00\x00"},
	}
	for _, c := range []struct {
		class, code int
		want        uint32
		ok          bool
	}{
		{1, 3, 0x01020304, true},
		{2, 2, 0xfffefdfc, true},
		{1, 2, 0x80000001, true}, // the first one with 4 bytes of Data
		{7, 7, 0, false},
		{8, 8, 0, false},
		{2, 3, 0, false},
		{3, 1, 0, false},
		{0, 0, 0, false},
		{-1, 1 << 40, 0, true},
		{65535, 0, 0, false},
		{1 + 65536, 3, 0, false},
		{1, 3 + 256, 0, false},
	} {
		if v, ok := geneve.Key(l, c.class, c.code); v != c.want || ok != c.ok {
			t.Errorf("%d, %d: %x, %v", c.class, c.code, v, ok)
		}
	}
	for _, l := range [][]api.Option{nil, {}} {
		if v, ok := geneve.Key(l, 0, 0); v != 0 || ok {
			t.Error("no options", v, ok)
		}
	}
}

// P7.2: only Data of 4 bytes says a number.
func TestKeyOfOtherSizes(t *testing.T) {
	for n := range 129 {
		o := api.Option{Class: 5, Code: 6, Data: strings.Repeat("\x01", n)}
		v, ok := geneve.Key([]api.Option{o}, 5, 6)
		if ok != (n == 4) || ok != (v == 0x01010101) {
			t.Errorf("%d bytes: %x, %v", n, v, ok)
		}
		v, ok = geneve.Key([]api.Option{o, {Class: 5, Code: 6, Data: "\x01\x01\x01\x02"}}, 5, 6)
		if !ok || n == 4 && v != 0x01010101 || n != 4 && v != 0x01010102 {
			t.Errorf("%d bytes, then 4: %x, %v", n, v, ok)
		}
	}
}

// P7.2
func TestPorts(t *testing.T) {
	for _, c := range []struct {
		in, out int
		want    string
	}{
		{0, 0, "\x00\x00\x00\x00"},
		{3, 4, "\x00\x03\x00\x04"},
		{0x1234, 0x5678, "\x12\x34\x56\x78"},
		{32767, 65535, "\x7f\xff\xff\xff"},
		{32768, 65536, "\x00\x00\x00\x00"},
		{32769, 65537, "\x00\x01\x00\x01"},
		{65535, 0, "\x7f\xff\x00\x00"},
		{65536, 0, "\x00\x00\x00\x00"},
		{0, 32768, "\x00\x00\x80\x00"},
		{-1, -1, "\x7f\xff\xff\xff"},
		{-2, -65536, "\x7f\xfe\x00\x00"},
		{math.MinInt, math.MaxInt, "\x00\x00\xff\xff"},
		{math.MaxInt, math.MinInt, "\x7f\xff\x00\x00"},
	} {
		want := []api.Option{{Class: 0x0102, Code: 0x80, Data: c.want}}
		if l := geneve.Ports(c.in, c.out); !slices.Equal(l, want) {
			t.Errorf("%d, %d: %#v", c.in, c.out, l)
		}
	}
}

// P7.3: Key of Ports tells both.
func TestKeyOfPorts(t *testing.T) {
	r := rand.New(rand.NewSource(1))
	for range 2000 {
		in, out := r.Intn(1<<15), r.Intn(1<<16)
		l := append(sized(0, 4, 8), geneve.Ports(in, out)...)
		x, e := geneve.Decap(takes(t, "ports", api.Tunnel{Options: l}))
		if e != api.OK {
			t.Fatal(e)
		}
		v, ok := geneve.Key(x.Options, 0x0102, 0x80)
		if !ok || int(v>>16) != in || int(v&0xffff) != out {
			t.Errorf("%d, %d: %x, %v", in, out, v, ok)
		}
	}
}

func randomTunnel(r *rand.Rand) api.Tunnel {
	x := api.Tunnel{
		Src: r.Uint32(), Dst: r.Uint32(), Sport: r.Intn(65536), Vni: r.Intn(api.MaxVni + 1), Oam: r.Intn(2) == 0,
		Frame: randomText(r, r.Intn(200)),
	}
	for room := 252; ; {
		o := api.Option{Class: r.Intn(65536), Code: r.Intn(256), Data: randomText(r, 4*r.Intn(32))}
		room -= 4 + len(o.Data)
		if room < 0 || r.Intn(5) == 0 {
			return x
		}
		x.Options = append(x.Options, o)
	}
}

func randomText(r *rand.Rand, n int) string {
	b := make([]byte, n)
	r.Read(b)
	return string(b)
}

// P7.3: Decap of Encap is the tunnel.
func TestBackAndForth(t *testing.T) {
	r := rand.New(rand.NewSource(2))
	for range 2000 {
		x := randomTunnel(r)
		if b := takes(t, "whatever tunnel", x); plainSum(b[:20]) != 0xffff {
			t.Errorf("% x", b)
		}
	}
}

// P7.3, R1: Encap of Decap is the bytes, whatever they are.
func TestBytesBackAndForth(t *testing.T) {
	r := rand.New(rand.NewSource(3))
	read := 0
	for range 40000 {
		data := []byte(randomText(r, 8+r.Intn(60)))
		copy(data, raw("00 00 65 58"))
		data[0], data[7] = byte(r.Intn(4)), 0
		for i := 11; i < len(data); i += 4 {
			data[i] &= 3
		}
		b := carrying(data)
		x, e := geneve.Decap(b)
		if e != api.OK {
			if e != api.ErrTunnel || !same(x, api.Tunnel{}) {
				t.Errorf("% x: %#v, %d", b, x, e)
			}
			continue
		}
		read++
		if c, e := geneve.Encap(x); !bytes.Equal(b, c) || e != api.OK {
			t.Errorf("% x came back as % x, %d", b, c, e)
		}
	}
	if read < 5000 {
		t.Error("too few were tunnels", read)
	}
}

// R1, R2
func TestWhateverBytes(t *testing.T) {
	r := rand.New(rand.NewSource(4))
	for range 20000 {
		b := []byte(randomText(r, r.Intn(120)))
		if len(b) > 40 && r.Intn(2) == 0 {
			b = with(b, 0, 0x45, 0, 0, byte(len(b)-r.Intn(12)))
			b = with(b, 9, byte(r.Intn(20)))
		}
		if x, e := geneve.Decap(b); e != api.OK && !same(x, api.Tunnel{}) {
			t.Errorf("% x: %#v, %d", b, x, e)
		}
	}
}

// R3
func TestArgumentsStay(t *testing.T) {
	x := full()
	room := append(slices.Clone(x.Options), api.Option{Class: 9, Code: 9, Data: "nine"})
	x.Options = room[:3]
	if b, e := geneve.Encap(x); !bytes.Equal(b, fullBytes()) || e != api.OK {
		t.Errorf("% x, %d", b, e)
	}
	if _, ok := geneve.Key(room[:3], 9, 9); ok {
		t.Error("what stands behind the end")
	}
	if !slices.Equal(room[:3], full().Options) || room[3] != (api.Option{Class: 9, Code: 9, Data: "nine"}) {
		t.Errorf("%#v", room)
	}
	b := append(fullBytes(), 0xee, 0xee)
	geneve.Decap(b[:63])
	geneve.Decap(b[:50])
	if !bytes.Equal(b, append(fullBytes(), 0xee, 0xee)) {
		t.Errorf("% x", b)
	}
}

// R3: each answer is memory of its own, spare room and all.
func TestAnswersAreNew(t *testing.T) {
	a, _ := geneve.Encap(full())
	b, _ := geneve.Encap(full())
	a = a[:cap(a)]
	for i := range a {
		a[i] = 0x55
	}
	if !bytes.Equal(b, fullBytes()) {
		t.Errorf("% x", b)
	}
	x, _ := geneve.Decap(b)
	y, _ := geneve.Decap(b)
	clear(x.Options[:cap(x.Options)])
	clear(b)
	if !same(y, full()) {
		t.Errorf("%#v", y)
	}
	p, q := geneve.Ports(1, 2), geneve.Ports(1, 2)
	clear(p[:cap(p)])
	if v, ok := geneve.Key(q, 0x0102, 0x80); v != 0x10002 || !ok {
		t.Errorf("%#v", q)
	}
}
