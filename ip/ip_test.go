package ip_test

import (
	"bytes"
	"math"
	"math/rand"
	"slices"
	"strings"
	"testing"

	"skein/api"
	"skein/ip"
)

// example is the head of the document's example.
var example = []byte{0x45, 0, 0, 0x1c, 0, 0, 0, 0, 0x40, 1, 0x66, 0xdf, 10, 0, 0, 1, 10, 0, 0, 2}

var exampleRead = api.Ip{Ttl: 64, Proto: api.ProtoIcmp, Src: 0x0a000001, Dst: 0x0a000002}

// full has a value of its own in each field, and options.
var full = []byte{
	0x47, 0xab, 0, 0x20, 0x12, 0x34, 0x5f, 0xf1, 0x80, 0x11, 0x8c, 0x4f,
	192, 168, 255, 254, 224, 0, 0, 251, 0x94, 4, 0, 0, 1, 2, 3, 4,
}

var fullRead = api.Ip{Tos: 0xab, Id: 0x1234, Frag: 0x5ff1, Ttl: 0x80, Proto: api.ProtoUdp, Src: 0xc0a8fffe, Dst: 0xe00000fb, Options: "\x94\x04\x00\x00\x01\x02\x03\x04"}

// with is a copy of b whose byte at a place is another one.
func with(b []byte, at int, c byte) []byte {
	b = slices.Clone(b)
	b[at] = c
	return b
}

// behind is a copy of b with n bytes more.
func behind(b []byte, n int) []byte {
	return append(slices.Clone(b), bytes.Repeat([]byte{0xee}, n)...)
}

// plainSum adds b's words one by one: a sum with carry that does not hang on package sum.
func plainSum(b []byte) int {
	total := 0
	for at := 0; at < len(b); at += 2 {
		total += int(b[at])<<8 + int(b[at+1])
		if total > 0xffff {
			total -= 0xffff
		}
	}
	return total
}

// summed is a copy of b whose check sum is right.
func summed(b []byte) []byte {
	b = slices.Clone(b)
	b[10], b[11] = 0, 0
	check := 0xffff - plainSum(b[:int(b[0]&15)*4])
	b[10], b[11] = byte(check>>8), byte(check)
	return b
}

// P3.1
func TestDecode(t *testing.T) {
	most := summed(append(append([]byte{0x4f}, bytes.Repeat([]byte{0xff}, 19)...), bytes.Repeat([]byte{0xfe}, 40)...))
	mostRead := api.Ip{Tos: 255, Id: 65535, Frag: 65535, Ttl: 255, Proto: 255, Src: math.MaxUint32, Dst: math.MaxUint32, Options: strings.Repeat("\xfe", 40)}
	least := summed(append([]byte{0x45, 0, 0, 20}, make([]byte, 16)...))
	cases := []struct {
		what        string
		b           []byte
		want        api.Ip
		size, total int
	}{
		{"the example", behind(example, 8), exampleRead, 20, 28},
		{"the example, and more", behind(example, 9), exampleRead, 20, 28},
		{"the example, and much more", behind(example, 1<<17), exampleRead, 20, 28},
		{"all fields", behind(full, 4), fullRead, 28, 32},
		{"the greatest", behind(most, 65535-60), mostRead, 60, 65535},
		{"the greatest, and more", behind(most, 65536-60), mostRead, 60, 65535},
		{"noughts", least, api.Ip{}, 20, 20},
		{"options and no data", summed(with(full, 3, 28)), fullRead, 28, 28},
	}
	for _, c := range cases {
		if h, n, total, e := ip.Decode(c.b); h != c.want || n != c.size || total != c.total || e != api.OK {
			t.Errorf("%s: %#v, %d, %d, %d", c.what, h, n, total, e)
		}
	}
}

// refusesDecode asks that Decode answers an error, and nothing beside it.
func refusesDecode(t *testing.T, what string, b []byte, want api.Errno) {
	t.Helper()
	if h, n, total, e := ip.Decode(b); h != (api.Ip{}) || n != 0 || total != 0 || e != want {
		t.Errorf("%s, %d bytes: %#v, %d, %d, %d, not %d", what, len(b), h, n, total, e, want)
	}
}

// P3.1, R2
func TestDecodeShort(t *testing.T) {
	refusesDecode(t, "nil", nil, api.ErrShort)
	whole := behind(full, 4)
	for n := range 32 {
		refusesDecode(t, "cut off", whole[:n], api.ErrShort)
	}
	for n := range 20 {
		refusesDecode(t, "too short ahead of another version", with(whole, 0, 0x67)[:n], api.ErrShort)
		refusesDecode(t, "too short ahead of no words", with(whole, 0, 0x40)[:n], api.ErrShort)
	}
	greatest := summed(append([]byte{0x45, 0, 0xff, 0xff}, make([]byte, 16)...))
	refusesDecode(t, "one byte too few", behind(greatest, 65535-21), api.ErrShort)
	refusesDecode(t, "a head of 60 bytes, one too few", summed(behind(with(full, 0, 0x4f), 40))[:59], api.ErrShort)
	refusesDecode(t, "too short ahead of a total below the head's", with(full, 3, 20)[:27], api.ErrShort)
	refusesDecode(t, "too short ahead of the sum", with(full, 1, 0), api.ErrShort)
}

// P3.1, R2
func TestDecodeForm(t *testing.T) {
	whole := behind(full, 4)
	for version := range byte(16) {
		if version != 4 {
			refusesDecode(t, "another version", summed(with(whole, 0, version<<4|7)), api.ErrForm)
			refusesDecode(t, "another version ahead of too short", with(full, 0, version<<4|15), api.ErrForm)
		}
	}
	for words := range byte(5) {
		refusesDecode(t, "too few words", summed(with(whole, 0, 0x40|words)), api.ErrForm)
		refusesDecode(t, "too few words ahead of a total too great", with(with(whole, 2, 0xff), 0, 0x40|words)[:20], api.ErrForm)
	}
	for total := range byte(28) {
		refusesDecode(t, "a total below the head's", summed(with(full, 3, total)), api.ErrForm)
		refusesDecode(t, "a total below the head's, ahead of the sum", with(full, 3, total), api.ErrForm)
	}
	for total := range byte(20) {
		refusesDecode(t, "a total below 20", summed(with(example, 3, total)), api.ErrForm)
	}
}

// P3.1: whichever bit of a head is turned, its sum tells; behind the head none does.
func TestDecodeSum(t *testing.T) {
	for _, whole := range [][]byte{behind(example, 8), behind(full, 4)} {
		size := int(whole[0]&15) * 4
		for at := range whole {
			if at == 0 || at == 2 || at == 3 {
				continue // lengths, which are looked at first
			}
			for bit := range 8 {
				turned := with(whole, at, whole[at]^1<<bit)
				if at < size {
					refusesDecode(t, "a bit turned", turned, api.ErrSum)
				} else if _, _, _, e := ip.Decode(turned); e != api.OK {
					t.Errorf("a bit of byte %d turned: %d", at, e)
				}
			}
		}
		refusesDecode(t, "another total", with(whole, 3, byte(size)), api.ErrSum)
	}
	// The sum may be right of all the bytes, and not of the head.
	refusesDecode(t, "a sum of all bytes", append(with(example, 11, 0xde), 0, 1, 0, 0, 0, 0, 0, 0), api.ErrSum)
}

// P3.1, P3.5: a check sum that comes to 0 is written as 0000 and read as FFFF, too.
func TestFormsOfZero(t *testing.T) {
	h := exampleRead
	h.Id = 0x66df // what the check sum would be otherwise
	b, e := ip.Encode(h, 8)
	if e != api.OK || b[10] != 0 || b[11] != 0 {
		t.Fatalf("% x, %d", b, e)
	}
	b = behind(b, 8)
	other := with(with(b, 10, 0xff), 11, 0xff)
	for _, x := range [][]byte{b, other} {
		if y, n, total, e := ip.Decode(x); y != h || n != 20 || total != 28 || e != api.OK {
			t.Errorf("% x: %#v, %d, %d, %d", x, y, n, total, e)
		}
		c, ok := ip.Hop(x)
		if !ok || plainSum(c[:20]) != 0xffff || c[8] != 63 || c[10] != 1 || c[11] != 0 {
			t.Errorf("% x: % x, %v", x, c, ok)
		}
	}
	refusesDecode(t, "0000 where it is not 0", with(with(behind(example, 8), 10, 0), 11, 0), api.ErrSum)
	refusesDecode(t, "FFFF where it is not 0", with(with(behind(example, 8), 10, 0xff), 11, 0xff), api.ErrSum)
}

// P3.2
func TestEncode(t *testing.T) {
	cases := []struct {
		h    api.Ip
		data int
		want []byte
	}{
		{exampleRead, 8, example},
		{fullRead, 4, full},
		{fullRead, 0, summed(with(full, 3, 28))},
		{fullRead, 65535 - 28, summed(with(with(full, 2, 0xff), 3, 0xff))},
		{api.Ip{}, 0, summed(append([]byte{0x45, 0, 0, 20}, make([]byte, 16)...))},
		{api.Ip{}, 65515, summed(append([]byte{0x45, 0, 0xff, 0xff}, make([]byte, 16)...))},
		{
			api.Ip{Tos: 255, Id: 65535, Frag: 65535, Ttl: 255, Proto: 255, Src: math.MaxUint32, Dst: math.MaxUint32, Options: strings.Repeat("\xff", 40)},
			65475,
			summed(append([]byte{0x4f}, bytes.Repeat([]byte{0xff}, 59)...)),
		},
	}
	for _, c := range cases {
		if b, e := ip.Encode(c.h, c.data); !bytes.Equal(b, c.want) || e != api.OK {
			t.Errorf("%#v, %d: % x, %d", c.h, c.data, b, e)
		}
	}
	for n := 0; n <= 40; n += 4 {
		h := api.Ip{Options: strings.Repeat("\x01", n)}
		b, e := ip.Encode(h, 1)
		if e != api.OK || len(b) != 20+n || b[0] != 0x40|byte(5+n/4) || int(b[3]) != 21+n || plainSum(b) != 0xffff || string(b[20:]) != h.Options {
			t.Errorf("%d bytes of options: % x, %d", n, b, e)
		}
	}
}

// P3.2, R2
func TestEncodeRefuses(t *testing.T) {
	type refusal struct {
		h    api.Ip
		data int
	}
	cases := []refusal{
		{api.Ip{}, -1},
		{api.Ip{}, 65516},
		{api.Ip{}, math.MaxInt},
		{api.Ip{}, math.MinInt},
		{api.Ip{}, math.MaxInt - 19},
		{api.Ip{}, 1 << 32},
		{fullRead, 65536 - 28},
		{api.Ip{Options: strings.Repeat("\x01", 40)}, 65476},
	}
	for n := range 80 {
		if n > 40 || n%4 != 0 {
			cases = append(cases, refusal{api.Ip{Options: strings.Repeat("\x01", n)}, 0})
		}
	}
	cases = append(cases, refusal{api.Ip{Options: strings.Repeat("\x01", 1<<17)}, 0})
	for _, v := range []int{-1, 256, math.MaxInt, math.MinInt} {
		cases = append(cases, refusal{api.Ip{Tos: v}, 0}, refusal{api.Ip{Ttl: v}, 0}, refusal{api.Ip{Proto: v}, 0})
	}
	for _, v := range []int{-1, 65536, math.MaxInt, math.MinInt} {
		cases = append(cases, refusal{api.Ip{Id: v}, 0}, refusal{api.Ip{Frag: v}, 0})
	}
	for _, c := range cases {
		if b, e := ip.Encode(c.h, c.data); len(b) != 0 || e != api.ErrArg {
			t.Errorf("%#v, %d: % x, %d", c.h, c.data, b, e)
		}
	}
}

// P3.3
func TestFragments(t *testing.T) {
	cases := []struct {
		frag         int
		first, whole bool
	}{
		{0, true, true},
		{0x4000, true, true},
		{0x8000, true, true},
		{0xc000, true, true},
		{0x2000, true, false},
		{0x6000, true, false},
		{0xe000, true, false},
		{1, false, false},
		{0x1000, false, false},
		{0x1fff, false, false},
		{0x2001, false, false},
		{0x4001, false, false},
		{0xd000, false, false},
		{0xffff, false, false},
	}
	for _, c := range cases {
		h := fullRead
		h.Frag = c.frag
		if ip.First(h) != c.first || ip.Whole(h) != c.whole {
			t.Errorf("%04x: %v, %v", c.frag, ip.First(h), ip.Whole(h))
		}
	}
	for bit := range 13 {
		if h := (api.Ip{Frag: 1 << bit}); ip.First(h) || ip.Whole(h) {
			t.Errorf("offset %d: the first, or whole", 1<<bit)
		}
	}
}

// P3.4
func TestHop(t *testing.T) {
	for ttl := 2; ttl < 256; ttl++ {
		for _, b := range [][]byte{example, full, behind(example, 8), behind(full, 3), behind(full, 100)} {
			b = summed(with(b, 8, byte(ttl)))
			c, ok := ip.Hop(b)
			want := summed(with(b, 8, byte(ttl-1)))
			if !ok || !bytes.Equal(c, want) {
				t.Fatalf("% x: % x, %v", b, c, ok)
			}
		}
	}
}

// refusesHop asks that Hop answers nothing.
func refusesHop(t *testing.T, what string, b []byte) {
	t.Helper()
	if c, ok := ip.Hop(b); len(c) != 0 || ok {
		t.Errorf("%s, %d bytes: % x, %v", what, len(b), c, ok)
	}
}

// P3.4
func TestHopRefuses(t *testing.T) {
	refusesHop(t, "nil", nil)
	for n := range 28 {
		refusesHop(t, "cut off", full[:n])
	}
	for ttl := range byte(2) {
		refusesHop(t, "no time to live", summed(with(example, 8, ttl)))
		refusesHop(t, "no time to live, with data", behind(summed(with(full, 8, ttl)), 4))
	}
	refusesHop(t, "another version", summed(with(full, 0, 0x67)))
	for words := range byte(5) {
		refusesHop(t, "too few words", summed(with(full, 0, 0x40|words)))
	}
	for total := range byte(28) {
		refusesHop(t, "a total below the head's", summed(with(full, 3, total)))
	}
	for at := range example {
		if at != 0 {
			refusesHop(t, "a byte turned", with(example, at, example[at]^0x20))
		}
	}
}

// P3.4: a total length that is not there plays no part.
func TestHopWithoutData(t *testing.T) {
	for _, total := range []byte{0, 1, 0x7f, 0xff} {
		b := summed(with(full, 2, total|1))
		refusesDecode(t, "no data", b, api.ErrShort)
		if c, ok := ip.Hop(b); !ok || !bytes.Equal(c, summed(with(b, 8, 0x7f))) {
			t.Errorf("% x: % x, %v", b, c, ok)
		}
	}
	b := summed(with(with(full, 2, 0xff), 3, 0xff))
	if c, ok := ip.Hop(b); !ok || !bytes.Equal(c, summed(with(b, 8, 0x7f))) {
		t.Errorf("% x: % x, %v", b, c, ok)
	}
}

func randomHead(r *rand.Rand) api.Ip {
	options := make([]byte, 4*r.Intn(11))
	r.Read(options)
	return api.Ip{
		Tos: r.Intn(256), Id: r.Intn(65536), Frag: r.Intn(65536), Ttl: r.Intn(256), Proto: r.Intn(256),
		Src: r.Uint32(), Dst: r.Uint32(), Options: string(options),
	}
}

// P3.5
func TestBackAndForth(t *testing.T) {
	r := rand.New(rand.NewSource(1))
	for range 2000 {
		h, data := randomHead(r), r.Intn(100)
		b, e := ip.Encode(h, data)
		if e != api.OK || plainSum(b) != 0xffff {
			t.Fatalf("%#v, %d: % x, %d", h, data, b, e)
		}
		x, n, total, e := ip.Decode(behind(b, data+r.Intn(3)))
		if x != h || n != len(b) || total != len(b)+data || e != api.OK {
			t.Errorf("%#v came back as %#v, %d, %d, %d", h, x, n, total, e)
		}
		c, ok := ip.Hop(behind(b, data))
		if ok != (h.Ttl > 1) {
			t.Errorf("%#v: %v", h, ok)
		}
		if !ok {
			continue
		}
		h.Ttl--
		if x, _, _, e := ip.Decode(c); x != h || e != api.OK {
			t.Errorf("behind a hop %#v is %#v, %d", h, x, e)
		}
	}
}

// P3.5: what Decode reads, of whatever bytes, Encode writes.
func TestBytesBackAndForth(t *testing.T) {
	r := rand.New(rand.NewSource(2))
	read := 0
	for range 4000 {
		b := make([]byte, 60+r.Intn(200))
		r.Read(b)
		b[0] = 0x40 | byte(r.Intn(16))
		b[2] = 0
		b = summed(b)
		h, n, total, e := ip.Decode(b)
		if e != api.OK {
			continue
		}
		read++
		if c, e := ip.Encode(h, total-n); !bytes.Equal(c, b[:n]) || e != api.OK {
			t.Errorf("% x came back as % x, %d", b[:n], c, e)
		}
	}
	if read < 1000 {
		t.Error("too few were heads", read)
	}
}

// R1
func TestWhateverBytes(t *testing.T) {
	r := rand.New(rand.NewSource(3))
	for range 20000 {
		b := make([]byte, r.Intn(80))
		r.Read(b)
		if len(b) > 0 && r.Intn(2) == 0 {
			b[0] = 0x40 | b[0]&15
		}
		h, n, total, e := ip.Decode(b)
		if e != api.OK && (h != (api.Ip{}) || n != 0 || total != 0) {
			t.Errorf("% x: %#v, %d, %d, %d", b, h, n, total, e)
		}
		ip.Hop(b)
	}
}

// R3
func TestArgumentsStay(t *testing.T) {
	whole := behind(full, 40)
	before := slices.Clone(whole)
	ip.Decode(whole[:32])
	ip.Hop(whole[:28])
	ip.Hop(whole[:30])
	if !bytes.Equal(whole, before) {
		t.Errorf("changed: % x", whole)
	}
	refusesDecode(t, "what stands behind the end", whole[:31], api.ErrShort)
	refusesHop(t, "what stands behind the end", whole[:27])
}

// R3: each answer is memory of its own, spare room and all.
func TestAnswersAreNew(t *testing.T) {
	given := behind(full, 4)
	encoded := func() []byte { b, _ := ip.Encode(fullRead, 4); return b }
	hopped := func() []byte { b, _ := ip.Hop(given); return b }
	for _, made := range []func() []byte{encoded, hopped} {
		a, b := made(), made()
		want := slices.Clone(b)
		a = a[:cap(a)]
		for i := range a {
			a[i] = 0x55
		}
		if !bytes.Equal(b, want) || !bytes.Equal(made(), want) || !bytes.Equal(given, behind(full, 4)) {
			t.Errorf("% x, then % x", want, b)
		}
	}
	h, _, _, _ := ip.Decode(given)
	clear(given)
	if h != fullRead {
		t.Errorf("%#v", h)
	}
}
