package eth_test

import (
	"bytes"
	"math/rand"
	"slices"
	"testing"

	"skein/api"
	"skein/eth"
)

// tagged is the document's example.
var tagged = []byte{2, 0, 0, 0, 0, 1, 2, 0, 0, 0, 0, 2, 0x81, 0, 0, 7, 8, 0}

var plain = []byte{0xff, 0xff, 0xff, 0xff, 0xff, 0xff, 0x0a, 0x0b, 0x0c, 0x0d, 0x0e, 0x0f, 8, 6}

var arp = []byte{
	0, 1, 8, 0, 6, 4, 0, 2,
	0x0a, 0x0b, 0x0c, 0x0d, 0x0e, 0x0f, 10, 0, 0, 1,
	0x1a, 0x1b, 0x1c, 0x1d, 0x1e, 0x1f, 192, 168, 255, 254,
}

var arpRead = api.Arp{Op: 2, Sha: 0x0a0b0c0d0e0f, Spa: 0x0a000001, Tha: 0x1a1b1c1d1e1f, Tpa: 0xc0a8fffe}

// long is the bytes of a head, with noughts behind it up to size.
func long(head []byte, size int) []byte {
	b := make([]byte, size)
	copy(b, head)
	return b
}

// with is a copy of b whose byte at a place is another one.
func with(b []byte, at int, c byte) []byte {
	b = slices.Clone(b)
	b[at] = c
	return b
}

// P2.1
func TestHead(t *testing.T) {
	taggedRead := api.Eth{Dst: 0x020000000001, Src: 0x020000000002, Tagged: true, Tag: 7, Type: api.TypeIp}
	plainRead := api.Eth{Dst: api.MaxMac, Src: 0x0a0b0c0d0e0f, Type: api.TypeArp}
	noughts := api.Eth{}
	fullTag := taggedRead
	fullTag.Tag, fullTag.Type = 0xffff, 0xffff
	noTag := taggedRead
	noTag.Tag = 0
	tagOfVlan := taggedRead
	tagOfVlan.Tag = api.TypeVlan
	short := taggedRead
	short.Type = 0
	cases := []struct {
		what string
		b    []byte
		want api.Eth
		size int
	}{
		{"tagged", tagged, taggedRead, 18},
		{"plain", plain, plainRead, 14},
		{"noughts", make([]byte, 14), noughts, 14},
		{"greatest tag and type", append(slices.Clone(tagged[:14]), 0xff, 0xff, 0xff, 0xff), fullTag, 18},
		{"a tag 0", with(tagged, 15, 0), noTag, 18},
		{"a tag 8100", append(slices.Clone(tagged[:14]), 0x81, 0, 8, 0), tagOfVlan, 18},
		{"a type 0", append(slices.Clone(tagged[:16]), 0, 0), short, 18},
		{"8100 behind a plain head", append(slices.Clone(plain), 0x81, 0), plainRead, 14},
		{"plain, MaxFrame", long(plain, api.MaxFrame), plainRead, 14},
		{"tagged, MaxFrame", long(tagged, api.MaxFrame), taggedRead, 18},
	}
	for _, c := range cases {
		if h, n, e := eth.Head(c.b); h != c.want || n != c.size || e != api.OK {
			t.Errorf("%s: %+v, %d, %d", c.what, h, n, e)
		}
	}
}

// P2.1, R2
func TestHeadRefuses(t *testing.T) {
	twice := append(slices.Clone(tagged[:16]), 0x81, 0)
	type refusal struct {
		what string
		b    []byte
		want api.Errno
	}
	cases := []refusal{
		{"one beyond MaxFrame", long(plain, api.MaxFrame+1), api.ErrLong},
		{"one beyond MaxFrame, tagged", long(tagged, api.MaxFrame+1), api.ErrLong},
		{"too long ahead of tagged twice", long(twice, api.MaxFrame+1), api.ErrLong},
		{"far too long", make([]byte, 1<<20), api.ErrLong},
		{"tagged twice", twice, api.ErrForm},
		{"tagged twice, and more", long(twice, 64), api.ErrForm},
		{"tagged twice, MaxFrame", long(twice, api.MaxFrame), api.ErrForm},
		{"nil", nil, api.ErrShort},
	}
	for n := range 14 {
		cases = append(cases, refusal{"plain, cut off", plain[:n], api.ErrShort})
	}
	for n := range 18 {
		cases = append(cases, refusal{"tagged, cut off", tagged[:n], api.ErrShort})
	}
	for _, c := range cases {
		if h, n, e := eth.Head(c.b); h != (api.Eth{}) || n != 0 || e != c.want {
			t.Errorf("%s, %d bytes: %+v, %d, %d, not %d", c.what, len(c.b), h, n, e, c.want)
		}
	}
}

// P2.1
func TestEncodeHead(t *testing.T) {
	cases := []struct {
		h    api.Eth
		want []byte
	}{
		{api.Eth{Dst: 0x020000000001, Src: 0x020000000002, Tagged: true, Tag: 7, Type: api.TypeIp}, tagged},
		{api.Eth{Dst: api.MaxMac, Src: 0x0a0b0c0d0e0f, Type: api.TypeArp}, plain},
		{api.Eth{}, make([]byte, 14)},
		{api.Eth{Tagged: true}, []byte{0, 0, 0, 0, 0, 0, 0, 0, 0, 0, 0, 0, 0x81, 0, 0, 0, 0, 0}},
		{api.Eth{Src: api.MaxMac, Tagged: true, Tag: 65535, Type: 65535}, []byte{0, 0, 0, 0, 0, 0, 255, 255, 255, 255, 255, 255, 0x81, 0, 255, 255, 255, 255}},
		{api.Eth{Tagged: true, Tag: api.TypeVlan, Type: 0x80ff}, []byte{0, 0, 0, 0, 0, 0, 0, 0, 0, 0, 0, 0, 0x81, 0, 0x81, 0, 0x80, 0xff}},
		{api.Eth{Type: 0x8101}, []byte{0, 0, 0, 0, 0, 0, 0, 0, 0, 0, 0, 0, 0x81, 1}},
	}
	for _, c := range cases {
		if b, e := eth.EncodeHead(c.h); !bytes.Equal(b, c.want) || e != api.OK {
			t.Errorf("%+v: % x, %d", c.h, b, e)
		}
	}
}

// P2.1, R2
func TestEncodeHeadRefuses(t *testing.T) {
	cases := []api.Eth{
		{Dst: api.MaxMac + 1},
		{Src: api.MaxMac + 1},
		{Dst: ^uint64(0)},
		{Src: ^uint64(0)},
		{Tagged: true, Tag: -1},
		{Tagged: true, Tag: 65536},
		{Tag: -1},
		{Tag: 65536},
		{Type: -1},
		{Type: 65536},
		{Tagged: true, Type: -1},
		{Tagged: true, Type: 65536},
		{Type: api.TypeVlan},
		{Tagged: true, Tag: 7, Type: api.TypeVlan},
		{Tag: 7, Type: api.TypeIp},
		{Tag: 1},
		{Tag: 65535},
	}
	for _, h := range cases {
		if b, e := eth.EncodeHead(h); len(b) != 0 || e != api.ErrArg {
			t.Errorf("%+v: % x, %d", h, b, e)
		}
	}
}

// P2.2
func TestArp(t *testing.T) {
	if a, e := eth.Arp(arp); a != arpRead || e != api.OK {
		t.Errorf("%+v, %d", a, e)
	}
	for _, size := range []int{29, 46, api.MaxFrame, api.MaxFrame + 1} {
		behind := bytes.Repeat([]byte{0xff}, size)
		copy(behind, arp)
		if a, e := eth.Arp(behind); a != arpRead || e != api.OK {
			t.Errorf("%d bytes: %+v, %d", size, a, e)
		}
	}
	full := append(slices.Clone(arp[:6]), bytes.Repeat([]byte{0xff}, 22)...)
	want := api.Arp{Op: 65535, Sha: api.MaxMac, Spa: 0xffffffff, Tha: api.MaxMac, Tpa: 0xffffffff}
	if a, e := eth.Arp(full); a != want || e != api.OK {
		t.Errorf("the greatest: %+v, %d", a, e)
	}
	empty := append(slices.Clone(arp[:6]), make([]byte, 22)...)
	if a, e := eth.Arp(empty); a != (api.Arp{}) || e != api.OK {
		t.Errorf("noughts: %+v, %d", a, e)
	}
}

// P2.2, R2
func TestArpRefuses(t *testing.T) {
	for n := range 28 {
		if a, e := eth.Arp(arp[:n]); a != (api.Arp{}) || e != api.ErrShort {
			t.Errorf("%d bytes: %+v, %d", n, a, e)
		}
		if a, e := eth.Arp(make([]byte, n)); a != (api.Arp{}) || e != api.ErrShort {
			t.Errorf("%d bytes of another form: %+v, %d", n, a, e)
		}
	}
	if _, e := eth.Arp(nil); e != api.ErrShort {
		t.Error("nil", e)
	}
	for at := range 6 {
		for _, turn := range []byte{1, 2, 0x80, 0xff} {
			if a, e := eth.Arp(with(arp, at, arp[at]^turn)); a != (api.Arp{}) || e != api.ErrForm {
				t.Errorf("byte %d turned by %02x: %+v, %d", at, turn, a, e)
			}
		}
	}
}

// P2.2
func TestEncodeArp(t *testing.T) {
	if b, e := eth.EncodeArp(arpRead); !bytes.Equal(b, arp) || e != api.OK {
		t.Errorf("% x, %d", b, e)
	}
	full := api.Arp{Op: 65535, Sha: api.MaxMac, Spa: 0xffffffff, Tha: api.MaxMac, Tpa: 0xffffffff}
	want := append(slices.Clone(arp[:6]), bytes.Repeat([]byte{0xff}, 22)...)
	if b, e := eth.EncodeArp(full); !bytes.Equal(b, want) || e != api.OK {
		t.Errorf("the greatest: % x, %d", b, e)
	}
	want = append(slices.Clone(arp[:6]), make([]byte, 22)...)
	if b, e := eth.EncodeArp(api.Arp{}); !bytes.Equal(b, want) || e != api.OK {
		t.Errorf("noughts: % x, %d", b, e)
	}
	wrong := []api.Arp{
		{Op: -1},
		{Op: 65536},
		{Sha: api.MaxMac + 1},
		{Tha: api.MaxMac + 1},
		{Sha: ^uint64(0)},
		{Tha: ^uint64(0)},
	}
	for _, a := range wrong {
		if b, e := eth.EncodeArp(a); len(b) != 0 || e != api.ErrArg {
			t.Errorf("%+v: % x, %d", a, b, e)
		}
	}
}

// P2.4
func TestHeadsBackAndForth(t *testing.T) {
	r := rand.New(rand.NewSource(1))
	edges := []int{0, 1, 0x80ff, 0x8101, 65535}
	for i := range 400 {
		h := api.Eth{Dst: r.Uint64() & api.MaxMac, Src: r.Uint64() & api.MaxMac, Tagged: i%2 == 0, Type: edges[r.Intn(len(edges))]}
		if h.Tagged {
			h.Tag = r.Intn(65536)
		}
		b, e := eth.EncodeHead(h)
		if e != api.OK {
			t.Fatalf("%+v: %d", h, e)
		}
		behind := make([]byte, r.Intn(40))
		r.Read(behind)
		x, n, e := eth.Head(append(slices.Clone(b), behind...))
		if x != h || n != len(b) || e != api.OK {
			t.Errorf("%+v came back as %+v, %d, %d", h, x, n, e)
		}
	}
}

// P2.4: what Head reads, of whatever bytes, EncodeHead writes.
func TestBytesOfHeadsBackAndForth(t *testing.T) {
	r := rand.New(rand.NewSource(2))
	read := 0
	for i := range 2000 {
		b := make([]byte, r.Intn(24))
		r.Read(b)
		if len(b) >= 14 && i%2 == 0 {
			b[12], b[13] = 0x81, 0
		}
		h, n, e := eth.Head(b)
		if e != api.OK {
			continue
		}
		read++
		if c, e := eth.EncodeHead(h); !bytes.Equal(c, b[:n]) || e != api.OK {
			t.Errorf("% x came back as % x, %d", b[:n], c, e)
		}
	}
	if read < 100 {
		t.Error("too few were heads", read)
	}
}

// P2.4
func TestArpBackAndForth(t *testing.T) {
	r := rand.New(rand.NewSource(3))
	for range 400 {
		a := api.Arp{Op: r.Intn(65536), Sha: r.Uint64() & api.MaxMac, Spa: r.Uint32(), Tha: r.Uint64() & api.MaxMac, Tpa: r.Uint32()}
		b, e := eth.EncodeArp(a)
		if e != api.OK || len(b) != 28 {
			t.Fatalf("%+v: % x, %d", a, b, e)
		}
		if x, e := eth.Arp(append(slices.Clone(b), 1, 2, 3)); x != a || e != api.OK {
			t.Errorf("%+v came back as %+v, %d", a, x, e)
		}
		r.Read(b[6:])
		x, e := eth.Arp(b)
		if e != api.OK {
			t.Fatalf("% x: %d", b, e)
		}
		if c, e := eth.EncodeArp(x); !bytes.Equal(c, b) || e != api.OK {
			t.Errorf("% x came back as % x, %d", b, c, e)
		}
	}
}

// R3
func TestArgumentsStay(t *testing.T) {
	for _, whole := range [][]byte{long(tagged, 64), long(arp, 64)} {
		before := slices.Clone(whole)
		eth.Head(whole[:18])
		eth.Arp(whole[:28])
		if !bytes.Equal(whole, before) {
			t.Errorf("changed: % x", whole)
		}
	}
	if _, _, e := eth.Head(long(tagged, 64)[:16]); e != api.ErrShort {
		t.Error("what stands behind the end plays a part", e)
	}
	if _, e := eth.Arp(long(arp, 64)[:27]); e != api.ErrShort {
		t.Error("what stands behind the end plays a part", e)
	}
}

// R3: each answer is memory of its own, spare room and all.
func TestAnswersAreNew(t *testing.T) {
	heads := func() []byte { b, _ := eth.EncodeHead(api.Eth{Dst: 1}); return b }
	arps := func() []byte { b, _ := eth.EncodeArp(api.Arp{Op: 1}); return b }
	for _, made := range []func() []byte{heads, arps} {
		a, b := made(), made()
		want := slices.Clone(b)
		a = a[:cap(a)]
		for i := range a {
			a[i] = 0xee
		}
		if !bytes.Equal(b, want) || !bytes.Equal(made(), want) {
			t.Errorf("% x, then % x", want, b)
		}
	}
}
