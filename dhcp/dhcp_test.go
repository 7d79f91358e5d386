package dhcp_test

import (
	"bytes"
	"math"
	"math/rand"
	"slices"
	"strings"
	"testing"

	"skein/api"
	"skein/dhcp"
)

// full has a value of its own in each field.
func full() api.Dhcp {
	return api.Dhcp{
		Op: 2, Xid: 0x01020304, Secs: 0x0506, Flags: 0x8007, Ciaddr: 0x08090a0b, Yiaddr: 0x0c0d0e0f,
		Siaddr: 0x10111213, Giaddr: 0x14151617, Chaddr: 0x18191a1b1c1d,
		Options: []api.Option{{Code: 53, Data: "\x02"}, {Code: 254, Data: ""}, {Code: 1, Data: "\xff\x00\x01"}},
	}
}

// fullBytes is full's bytes, with what stands in options behind the fixed part.
func fullBytes(options string) []byte {
	return []byte("\x02\x01\x06\x00" + "\x01\x02\x03\x04" + "\x05\x06\x80\x07" + "\x08\x09\x0a\x0b\x0c\x0d\x0e\x0f" +
		"\x10\x11\x12\x13\x14\x15\x16\x17" + "\x18\x19\x1a\x1b\x1c\x1d" + strings.Repeat("\x00", 202) + "\x63\x82\x53\x63" + options)
}

const fullOptions = "\x35\x01\x02" + "\xfe\x00" + "\x01\x03\xff\x00\x01" + "\xff"

func same(a, b api.Dhcp) bool {
	return slices.Equal(a.Options, b.Options) && a.Op == b.Op && a.Xid == b.Xid && a.Secs == b.Secs && a.Flags == b.Flags &&
		a.Ciaddr == b.Ciaddr && a.Yiaddr == b.Yiaddr && a.Siaddr == b.Siaddr && a.Giaddr == b.Giaddr && a.Chaddr == b.Chaddr
}

// with is a copy of b whose bytes from at on are others.
func with(b []byte, at int, c ...byte) []byte {
	b = slices.Clone(b)
	copy(b[at:], c)
	return b
}

func reads(t *testing.T, what string, b []byte, want api.Dhcp) {
	t.Helper()
	if m, e := dhcp.Decode(b); !same(m, want) || e != api.OK {
		t.Errorf("%s: %#v, %d", what, m, e)
	}
}

// unread asks that Decode answers an error, and nothing beside it.
func unread(t *testing.T, what string, b []byte) {
	t.Helper()
	if m, e := dhcp.Decode(b); !same(m, api.Dhcp{}) || e != api.ErrDhcp {
		t.Errorf("%s, %d bytes: %#v, %d", what, len(b), m, e)
	}
}

// writes asks that Encode answers some bytes, which are read back.
func writes(t *testing.T, what string, m api.Dhcp, want []byte) {
	t.Helper()
	if b, e := dhcp.Encode(m); !bytes.Equal(b, want) || e != api.OK {
		t.Errorf("%s: % x, %d", what, b, e)
	}
	reads(t, what, want, m)
}

// unwritten asks that Encode answers an error, and nothing beside it.
func unwritten(t *testing.T, what string, m api.Dhcp) {
	t.Helper()
	if b, e := dhcp.Encode(m); len(b) != 0 || e != api.ErrArg {
		t.Errorf("%s: %d bytes, %d", what, len(b), e)
	}
}

// P6.1, P6.4
func TestBothWays(t *testing.T) {
	writes(t, "all fields", full(), fullBytes(fullOptions))
	bare := full()
	bare.Options = nil
	writes(t, "no options", bare, fullBytes("\xff"))
	bare.Options = []api.Option{}
	writes(t, "no options", bare, fullBytes("\xff"))
	least := append([]byte("\x01\x01\x06\x00"), make([]byte, 232)...)
	writes(t, "noughts", api.Dhcp{Op: 1}, append(least, "\x63\x82\x53\x63\xff"...))
	most := full()
	most.Op, most.Secs, most.Flags, most.Chaddr = 1, 65535, 65535, api.MaxMac
	most.Xid, most.Ciaddr, most.Yiaddr, most.Siaddr, most.Giaddr = math.MaxUint32, math.MaxUint32, math.MaxUint32, math.MaxUint32, math.MaxUint32
	writes(t, "the greatest", most, append([]byte("\x01\x01\x06\x00"+strings.Repeat("\xff", 30)), fullBytes(fullOptions)[34:]...))
}

// P6.1: fewer than 240 bytes, and options that end without 255, or within one.
func TestDecodeShort(t *testing.T) {
	unread(t, "nil", nil)
	whole := fullBytes(fullOptions)
	for n := range whole {
		unread(t, "cut off", whole[:n])
	}
	cases := []string{
		"", "\x00", strings.Repeat("\x00", 300), "\x35", "\x35\x00", "\x35\x01", "\x35\x01\xff", "\x35\x02\x01\xff", "\x35\xff\xff\xff",
		"\x00\x35\x01\x02", "\x35\x01\x02\x00", "\xfe", "\xfe\xff" + strings.Repeat("\x01", 254), "\xfe\xff" + strings.Repeat("\xff", 255),
		"\x35\x01\x02\x36", "\x35\x01\x02\x36\x04\x01\x02\xff",
	}
	for _, options := range cases {
		unread(t, "options", fullBytes(options))
	}
}

// P6.1: the fixed bytes, and those that may be any.
func TestDecodeFixed(t *testing.T) {
	whole := fullBytes(fullOptions)
	for _, at := range []int{1, 2, 3, 236, 237, 238, 239} {
		for bit := range 8 {
			unread(t, "a fixed byte", with(whole, at, whole[at]^1<<bit))
		}
	}
	for op := range 256 {
		m := full()
		m.Op = op
		if op == 1 || op == 2 {
			reads(t, "Op", with(whole, 0, byte(op)), m)
		} else {
			unread(t, "Op", with(whole, 0, byte(op)))
		}
	}
	for at := 34; at < 236; at++ {
		reads(t, "a byte that may be any", with(whole, at, 0xff), full())
	}
}

// P6.1: filling bytes are left out, and what stands behind the end is nobody's.
func TestDecodeOptions(t *testing.T) {
	one := []api.Option{{Code: 53, Data: "\x01"}}
	longest := strings.Repeat("\x00\xff", 127) + "\x01"
	cases := []struct {
		options string
		want    []api.Option
	}{
		{"\xff", nil},
		{"\x00\x00\x00\xff", nil},
		{"\xff\x35\x01\x01\xff", nil},
		{"\x35\x01\x01\xff", one},
		{"\x00\x35\x01\x01\x00\x00\xff\x00\x36", one},
		{"\x35\x01\x01\xff\x36\x04\x01", one},
		{"\x35\x01\x01\xff" + strings.Repeat("\xff", 500), one},
		{"\x35\x00\x35\x00\xff", []api.Option{{Code: 53}, {Code: 53}}},
		{"\x01\x01\x00\xfe\x01\xff\xff", []api.Option{{Code: 1, Data: "\x00"}, {Code: 254, Data: "\xff"}}},
		{"\x02\xff" + longest + "\x03\x02ab\xff", []api.Option{{Code: 2, Data: longest}, {Code: 3, Data: "ab"}}},
	}
	for _, c := range cases {
		m := full()
		m.Options = c.want
		reads(t, "options", fullBytes(c.options), m)
	}
	many := full()
	many.Options = nil
	for range 65 {
		many.Options = append(many.Options, api.Option{Code: 7, Data: "x"})
	}
	reads(t, "more than Encode takes", fullBytes(strings.Repeat("\x07\x01x", 65)+"\xff"), many)
}

// P6.1
func TestEncodeNumbers(t *testing.T) {
	for _, op := range []int{-1, 0, 3, 255, 257, 258, math.MaxInt, math.MinInt} {
		m := full()
		m.Op = op
		unwritten(t, "Op", m)
	}
	for _, v := range []int{-1, 65536, 65537, 1 << 32, math.MaxInt, math.MinInt} {
		m := full()
		m.Secs = v
		unwritten(t, "Secs", m)
		m = full()
		m.Flags = v
		unwritten(t, "Flags", m)
	}
	for _, mac := range []uint64{api.MaxMac + 1, 1 << 63, math.MaxUint64} {
		m := full()
		m.Chaddr = mac
		unwritten(t, "Chaddr", m)
	}
}

// P6.1: 64 options and one more; each option's parts, wherever it stands.
func TestEncodeOptions(t *testing.T) {
	m := full()
	m.Options = nil
	for n := range 64 {
		m.Options = append(m.Options, api.Option{Code: n + 1, Data: strings.Repeat("d", 255)})
	}
	b, e := dhcp.Encode(m)
	if e != api.OK || len(b) != 240+64*257+1 {
		t.Errorf("%d bytes, %d", len(b), e)
	}
	reads(t, "64 options", b, m)
	wrong := []api.Option{
		{Class: 1, Code: 53}, {Class: -1, Code: 53}, {Code: 0}, {Code: 255}, {Code: 256}, {Code: 309}, {Code: -1},
		{Code: math.MaxInt}, {Code: math.MinInt}, {Code: 53, Data: strings.Repeat("d", 256)}, {Code: 53, Data: strings.Repeat("d", 512)},
	}
	for _, o := range wrong {
		for at := range m.Options {
			list := slices.Clone(m.Options)
			list[at] = o
			n := m
			n.Options = list
			unwritten(t, "an option", n)
		}
		n := full()
		n.Options = []api.Option{o}
		unwritten(t, "an option alone", n)
	}
	m.Options = append(m.Options, api.Option{Code: 1})
	unwritten(t, "65 options", m)
	for code := 1; code <= 254; code++ {
		m.Options = []api.Option{{Code: code, Data: "x"}}
		writes(t, "a code", m, fullBytes(string([]byte{byte(code), 1, 'x', 255})))
	}
}

// P6.2
func TestFind(t *testing.T) {
	m := full()
	m.Options = []api.Option{{Code: 3, Data: "a"}, {Code: 53, Data: ""}, {Code: 3, Data: "b"}, {Code: 254, Data: "last"}}
	cases := []struct {
		code int
		data string
		ok   bool
	}{
		{3, "a", true}, {53, "", true}, {254, "last", true},
		{0, "", false}, {1, "", false}, {2, "", false}, {255, "", false}, {-3, "", false}, {259, "", false}, {math.MinInt, "", false},
	}
	for _, c := range cases {
		if data, ok := dhcp.Find(m, c.code); data != c.data || ok != c.ok {
			t.Errorf("%d: %q, %v", c.code, data, ok)
		}
		if data, ok := dhcp.Find(api.Dhcp{Op: 1}, c.code); data != "" || ok {
			t.Errorf("%d of none: %q, %v", c.code, data, ok)
		}
	}
}

func randomMessage(r *rand.Rand) api.Dhcp {
	m := api.Dhcp{
		Op: 1 + r.Intn(2), Xid: r.Uint32(), Secs: r.Intn(65536), Flags: r.Intn(65536), Ciaddr: r.Uint32(), Yiaddr: r.Uint32(),
		Siaddr: r.Uint32(), Giaddr: r.Uint32(), Chaddr: r.Uint64() & api.MaxMac,
	}
	for range r.Intn(20) {
		data := make([]byte, r.Intn(12))
		r.Read(data)
		m.Options = append(m.Options, api.Option{Code: 1 + r.Intn(254), Data: string(data)})
	}
	return m
}

// P6.4
func TestBackAndForth(t *testing.T) {
	r := rand.New(rand.NewSource(1))
	for range 3000 {
		m := randomMessage(r)
		b, e := dhcp.Encode(m)
		if e != api.OK {
			t.Fatalf("%#v: %d", m, e)
		}
		reads(t, "back", append(b, "whatever"...), m)
	}
}

// R1, R2, P6.4: whatever bytes; what is read is written so that it is read again.
func TestWhateverBytes(t *testing.T) {
	r := rand.New(rand.NewSource(2))
	read := 0
	for range 20000 {
		options := make([]byte, r.Intn(60))
		r.Read(options)
		for at := range options {
			options[at] >>= r.Intn(9)
		}
		b := fullBytes(string(options) + strings.Repeat("\xff", r.Intn(300)))
		if r.Intn(4) == 0 {
			b[r.Intn(len(b))] = byte(r.Intn(256))
		}
		m, e := dhcp.Decode(b)
		if e != api.OK {
			if !same(m, api.Dhcp{}) || e != api.ErrDhcp {
				t.Errorf("% x: %#v, %d", b, m, e)
			}
			continue
		}
		read++
		c, e := dhcp.Encode(m)
		if e != api.OK {
			t.Errorf("%#v: %d", m, e)
		}
		reads(t, "again", c, m)
	}
	if read < 5000 {
		t.Error("too few were read", read)
	}
}

// R3
func TestArgumentsStay(t *testing.T) {
	b := fullBytes(fullOptions)
	room := append(slices.Clone(b), 0xff, 0xff, 0xff)
	before := slices.Clone(room)
	m, e := dhcp.Decode(room[:len(b)])
	if !bytes.Equal(room, before) {
		t.Errorf("changed: % x", room)
	}
	clear(room)
	if !same(m, full()) || e != api.OK {
		t.Errorf("%#v, %d", m, e)
	}
	unread(t, "what stands in the room behind", append(fullBytes("\x35\x01\x02"), 0xff)[:243])
	list := append(full().Options, api.Option{Code: 99, Data: "room"})
	m.Options = list[:3]
	writes(t, "a list with room", m, b)
	if !slices.Equal(list, append(full().Options, api.Option{Code: 99, Data: "room"})) {
		t.Errorf("changed: %v", list)
	}
}

// R3: each answer is memory of its own, spare room and all.
func TestAnswersAreNew(t *testing.T) {
	a, _ := dhcp.Encode(full())
	b, _ := dhcp.Encode(full())
	a = a[:cap(a)]
	for i := range a {
		a[i] = 0x55
	}
	if !bytes.Equal(b, fullBytes(fullOptions)) {
		t.Errorf("% x", b)
	}
	m, _ := dhcp.Decode(b)
	n, _ := dhcp.Decode(b)
	m.Options = m.Options[:cap(m.Options)]
	for i := range m.Options {
		m.Options[i] = api.Option{Code: 1}
	}
	if !same(n, full()) {
		t.Errorf("%#v", n)
	}
}
