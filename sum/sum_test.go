package sum_test

import (
	"bytes"
	"hash/fnv"
	"math/rand"
	"slices"
	"testing"

	"skein/sum"
)

// head is an IPv4 head whose check sum's place is 0.
var head = []byte{0x45, 0, 0, 0x1c, 0, 0, 0, 0, 0x40, 1, 0, 0, 10, 0, 0, 1, 10, 0, 0, 2}

// slowSum adds word by word, and the carry at once.
func slowSum(b []byte) uint16 {
	s := uint32(0)
	for i, c := range b {
		w := uint32(c)
		if i%2 == 0 {
			w <<= 8
		}
		s += w
		if s > 0xffff {
			s = s - 0x10000 + 1
		}
	}
	return uint16(s)
}

func randomBytes(r *rand.Rand, size int) []byte {
	b := make([]byte, size)
	r.Read(b)
	return b
}

// P1.1
func TestSumOfWords(t *testing.T) {
	cases := []struct {
		b    []byte
		want uint16
	}{
		{nil, 0},
		{[]byte{}, 0},
		{[]byte{1}, 0x0100},
		{[]byte{0xff}, 0xff00},
		{[]byte{0x12, 0x34}, 0x1234},
		{[]byte{0x12, 0x34, 0x56}, 0x6834},
		{[]byte{0, 0}, 0},
		{[]byte{0, 0, 0}, 0},
		{[]byte{0xff, 0xff}, 0xffff},
		{[]byte{0xff, 0xff, 0, 0}, 0xffff},
		{[]byte{0xff, 0xff, 0xff, 0xff}, 0xffff},
		{[]byte{0xff, 0xff, 0, 1}, 1},
		{[]byte{0xff, 0xff, 1}, 0x0100},
		{[]byte{0xff, 0xfe, 0, 1}, 0xffff},
		{[]byte{0xff, 0xff, 0xff, 0xff, 0, 1}, 1},
		{head, 0x9920},
	}
	for _, c := range cases {
		if s := sum.Sum(c.b); s != c.want {
			t.Errorf("Sum(% x) = %04x, not %04x", c.b, s, c.want)
		}
		if s := sum.Check(c.b); s != ^c.want {
			t.Errorf("Check(% x) = %04x, not %04x", c.b, s, ^c.want)
		}
	}
}

// P1.1
func TestSumOfManyWords(t *testing.T) {
	r := rand.New(rand.NewSource(1))
	for size := range 600 {
		b := randomBytes(r, size)
		if s := sum.Sum(b); s != slowSum(b) {
			t.Errorf("%d bytes: %04x, not %04x", size, s, slowSum(b))
		}
	}
	// So many that a total of 32 bits would go round.
	b := bytes.Repeat([]byte{0xff, 0xfe}, 70000)
	b = append(b, 7)
	if s := sum.Sum(b); s != slowSum(b) {
		t.Errorf("%d bytes: %04x, not %04x", len(b), s, slowSum(b))
	}
}

// P1.1: the document's example.
func TestCheckExample(t *testing.T) {
	if c := sum.Check(head); c != 0x66df {
		t.Errorf("%04x", c)
	}
}

// P1.1
func TestAdd(t *testing.T) {
	cases := []struct{ a, b, want uint16 }{
		{0, 0, 0},
		{1, 2, 3},
		{0, 0xffff, 0xffff},
		{0xffff, 0, 0xffff},
		{0xffff, 1, 1},
		{0xffff, 0xffff, 0xffff},
		{0x8000, 0x8000, 1},
		{0x8000, 0x7fff, 0xffff},
		{0xfffe, 1, 0xffff},
		{0xfffe, 2, 1},
	}
	for _, c := range cases {
		if s := sum.Add(c.a, c.b); s != c.want {
			t.Errorf("Add(%04x, %04x) = %04x, not %04x", c.a, c.b, s, c.want)
		}
	}
}

// P1.2
func TestUpdate(t *testing.T) {
	cases := []struct{ check, old, now, want uint16 }{
		{0x66df, 0x4001, 0x3f01, 0x67df},
		{0x66df, 0x4001, 0x4001, 0x66df},
		{0xdd2f, 0x5555, 0x3285, 0x0000}, // RFC 1624's own: not FFFF
		{0xffff, 0, 1, 0xfffe},
		{0xfffe, 1, 0, 0x0000}, // a form of 0, where Check has the other one
		{0, 0, 0, 0},
		{0xffff, 0, 0, 0},
		{0, 0xffff, 0, 0}, // likewise
		{0xffff, 0xffff, 0, 0xffff},
		{0, 0xffff, 0xffff, 0},
	}
	for _, c := range cases {
		if s := sum.Update(c.check, c.old, c.now); s != c.want {
			t.Errorf("Update(%04x, %04x, %04x) = %04x, not %04x", c.check, c.old, c.now, s, c.want)
		}
	}
}

// P1.2: held against the words' sum by a way of its own, over words near the edges.
func TestUpdateAsDefined(t *testing.T) {
	words := []uint16{0, 1, 2, 0x7fff, 0x8000, 0x8001, 0xfffd, 0xfffe, 0xffff, 0x1234}
	for _, check := range words {
		for _, old := range words {
			for _, now := range words {
				nc, no := ^check, ^old
				want := ^slowSum([]byte{byte(nc >> 8), byte(nc), byte(no >> 8), byte(no), byte(now >> 8), byte(now)})
				if s := sum.Update(check, old, now); s != want {
					t.Errorf("Update(%04x, %04x, %04x) = %04x, not %04x", check, old, now, s, want)
				}
			}
		}
	}
}

// P1.3
func TestPseudo(t *testing.T) {
	cases := []struct {
		src, dst    uint32
		proto, size int
		want        uint16
	}{
		{0, 0, 0, 0, 0},
		{0x0a000001, 0x0a000002, 17, 8, 0x141c},
		{0x00010000, 0, 0, 0, 1},
		{0, 0x00020003, 0, 0, 5},
		{0xffffffff, 0xffffffff, 0xff, 0xffff, 0x00ff},
		{0xffff0000, 0x0000ffff, 0, 0, 0xffff},
		{0, 0, 0x100, 0, 0},
		{0, 0, 0x1ff, 0, 0xff},
		{0, 0, 0, 0x10000, 0},
		{0, 0, 0, 0x12345, 0x2345},
		{0, 0, -1, 0, 0xff},
		{0, 0, 0, -1, 0xffff},
		{0, 0, -256, -65536, 0},
	}
	for _, c := range cases {
		if s := sum.Pseudo(c.src, c.dst, c.proto, c.size); s != c.want {
			t.Errorf("Pseudo(%08x, %08x, %d, %d) = %04x, not %04x", c.src, c.dst, c.proto, c.size, s, c.want)
		}
	}
}

// P1.4: held against the library's FNV-1a.
func TestHash(t *testing.T) {
	cases := []struct {
		src, dst            uint32
		proto, sport, dport int
		b                   []byte
	}{
		{0, 0, 0, 0, 0, make([]byte, 13)},
		{0x01020304, 0x05060708, 9, 0x0a0b, 0x0c0d, []byte{1, 2, 3, 4, 5, 6, 7, 8, 9, 10, 11, 12, 13}},
		{0xfffefdfc, 0xfbfaf9f8, 0xf7, 0xf6f5, 0xf4f3, []byte{0xff, 0xfe, 0xfd, 0xfc, 0xfb, 0xfa, 0xf9, 0xf8, 0xf7, 0xf6, 0xf5, 0xf4, 0xf3}},
		{0, 0, 0x111, 0x10044, 0x20043, []byte{0, 0, 0, 0, 0, 0, 0, 0, 0x11, 0, 0x44, 0, 0x43}},
		{0, 0, -1, -2, -65536, []byte{0, 0, 0, 0, 0, 0, 0, 0, 0xff, 0xff, 0xfe, 0, 0}},
	}
	for _, c := range cases {
		f := fnv.New32a()
		f.Write(c.b)
		if h := sum.Hash(c.src, c.dst, c.proto, c.sport, c.dport); h != f.Sum32() {
			t.Errorf("Hash over % x = %08x, not %08x", c.b, h, f.Sum32())
		}
	}
}

// P1.4
func TestPick(t *testing.T) {
	const most = int(^uint(0) >> 1)
	cases := []struct {
		hash uint32
		n    int
		want int
	}{
		{0, 5, 0},
		{7, 1, 0},
		{7, 7, 0},
		{7, 5, 2},
		{7, 8, 7},
		{0xffffffff, 2, 1},
		{0xffffffff, 10, 5},
		{0xffffffff, most, int(uint64(0xffffffff) % uint64(most))},
		{0x80000000, 3, 2},
		{7, 0, 0},
		{7, -1, 0},
		{7, -5, 0},
		{7, -most - 1, 0},
	}
	for _, c := range cases {
		if p := sum.Pick(c.hash, c.n); p != c.want {
			t.Errorf("Pick(%d, %d) = %d, not %d", c.hash, c.n, p, c.want)
		}
	}
}

// P1.5
func TestSumWithItsCheck(t *testing.T) {
	r := rand.New(rand.NewSource(2))
	lists := [][]byte{nil, {0}, {0, 0}, {0xff, 0xff}, {0xff}, head}
	for size := range 100 {
		lists = append(lists, randomBytes(r, size))
	}
	for _, b := range lists {
		c := sum.Check(b)
		even := slices.Clone(b)
		if len(even)%2 == 1 {
			even = append(even, 0)
		}
		even = append(even, byte(c>>8), byte(c))
		if s := sum.Sum(even); s != 0xffff {
			t.Errorf("% x with its check sum: %04x", b, s)
		}
	}
}

// P1.5
func TestOrderAndGroups(t *testing.T) {
	r := rand.New(rand.NewSource(3))
	for range 200 {
		words := r.Intn(40)
		b := randomBytes(r, 2*words)
		whole := sum.Sum(b)
		cut := 2 * r.Intn(words+1)
		if s := sum.Add(sum.Sum(b[:cut]), sum.Sum(b[cut:])); s != whole {
			t.Errorf("in groups, cut at %d: %04x, not %04x", cut, s, whole)
		}
		mixed := slices.Clone(b)
		r.Shuffle(words, func(i, j int) {
			mixed[2*i], mixed[2*j] = mixed[2*j], mixed[2*i]
			mixed[2*i+1], mixed[2*j+1] = mixed[2*j+1], mixed[2*i+1]
		})
		if s := sum.Sum(mixed); s != whole {
			t.Errorf("in another order: %04x, not %04x", s, whole)
		}
	}
}

// P1.6
func TestUpdateIsTheChangedCheck(t *testing.T) {
	r := rand.New(rand.NewSource(4))
	words := []uint16{0, 1, 0x8000, 0xfffe, 0xffff}
	for _, others := range [][]byte{nil, {0, 0}, {0xff, 0xff}, {0, 1}, {0xff, 0xfe}, {1}, randomBytes(r, 20), randomBytes(r, 21)} {
		for _, old := range words {
			for _, now := range words {
				before := append([]byte{byte(old >> 8), byte(old)}, others...)
				after := append([]byte{byte(now >> 8), byte(now)}, others...)
				got, want := sum.Update(sum.Check(before), old, now), sum.Check(after)
				if !sameCheck(got, want) {
					t.Errorf("% x to % x: %04x, not %04x", before, after, got, want)
				}
			}
		}
	}
}

// sameCheck: 0000 and FFFF are two forms of one.
func sameCheck(a, b uint16) bool {
	return a == b || a == 0 && b == 0xffff || a == 0xffff && b == 0
}

// R3
func TestArgumentsStay(t *testing.T) {
	room := []byte{1, 2, 3, 9, 9}
	sum.Sum(room[:3])
	sum.Check(room[:3])
	if !bytes.Equal(room, []byte{1, 2, 3, 9, 9}) {
		t.Errorf("changed: % x", room)
	}
	if s := sum.Sum(room[:3]); s != 0x0402 {
		t.Errorf("what stands behind the end plays a part: %04x", s)
	}
}
