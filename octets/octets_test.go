package octets_test

import (
	"bytes"
	"math"
	"slices"
	"testing"

	"skein/octets"
)

func TestNumber(t *testing.T) {
	cases := []struct {
		b    []byte
		want uint64
	}{
		{nil, 0},
		{[]byte{0}, 0},
		{[]byte{7}, 7},
		{[]byte{1, 2}, 0x0102},
		{[]byte{0xff, 0, 0x80, 1}, 0xff008001},
		{[]byte{1, 2, 3, 4, 5, 6}, 0x010203040506},
		{bytes.Repeat([]byte{0xff}, 8), math.MaxUint64},
	}
	for _, c := range cases {
		before := slices.Clone(c.b)
		if v := octets.Number(c.b); v != c.want {
			t.Errorf("% x: %x", c.b, v)
		}
		if !bytes.Equal(c.b, before) {
			t.Errorf("% x became % x", before, c.b)
		}
	}
}

func TestWords(t *testing.T) {
	b := []byte{1, 2, 3, 0xff, 0xfe, 6}
	for at, want := range []uint16{0x0102, 0x0203, 0x03ff, 0xfffe, 0xfe06} {
		if v := octets.Word(b, at); v != want {
			t.Errorf("at %d: %x", at, v)
		}
	}
	octets.SetWord(b, 1, 0xabcd)
	octets.SetWord(b, 4, 7)
	if want := []byte{1, 0xab, 0xcd, 0xff, 0, 7}; !bytes.Equal(b, want) {
		t.Errorf("% x", b)
	}
}

func TestAppend(t *testing.T) {
	cases := []struct {
		out  []byte
		v    uint64
		size int
		want []byte
	}{
		{nil, 5, 0, nil},
		{nil, 5, -1, nil},
		{nil, 5, 1, []byte{5}},
		{nil, 0x1234, 1, []byte{0x34}},
		{[]byte{9}, 0x0102, 2, []byte{9, 1, 2}},
		{[]byte{9, 8}, 0x010203040506, 6, []byte{9, 8, 1, 2, 3, 4, 5, 6}},
		{nil, math.MaxUint64, 8, bytes.Repeat([]byte{0xff}, 8)},
	}
	for _, c := range cases {
		if b := octets.Append(c.out, c.v, c.size); !bytes.Equal(b, c.want) {
			t.Errorf("%x in %d bytes: % x", c.v, c.size, b)
		}
	}
}

func TestFits(t *testing.T) {
	cases := []struct {
		v    int
		bits uint
		want bool
	}{
		{0, 8, true}, {255, 8, true}, {256, 8, false}, {-1, 8, false},
		{4095, 12, true}, {4096, 12, false},
		{65535, 16, true}, {65536, 16, false}, {-65536, 16, false},
		{math.MaxInt, 16, false}, {math.MinInt, 16, false},
	}
	for _, c := range cases {
		if octets.Fits(c.v, c.bits) != c.want {
			t.Errorf("%d in %d bits: not %v", c.v, c.bits, c.want)
		}
	}
}
