package eth_test

import (
	"math/rand"
	"strings"
	"testing"

	"skein/api"
	"skein/eth"
)

// P2.3
func TestMulticast(t *testing.T) {
	cases := []struct {
		mac  uint64
		want bool
	}{
		{0, false},
		{1 << 40, true},
		{api.MaxMac, true},
		{0x01005e000001, true},
		{0x333300000001, true},
		{0x020000000001, false},
		{0xfeffffffffff, false},
		{1, false},
		{1 << 41, false},
		{1 << 39, false},
		{1 << 47, false},
		{1 << 48, false},
		{1<<48 | 1<<40, true},
		{^uint64(1 << 40), false},
		{^uint64(0), true},
	}
	for _, c := range cases {
		if m := eth.Multicast(c.mac); m != c.want {
			t.Errorf("Multicast(%012x) = %v", c.mac, m)
		}
	}
}

// P2.3, P2.4
func TestMac(t *testing.T) {
	cases := []struct {
		s   string
		mac uint64
	}{
		{"00:00:00:00:00:00", 0},
		{"ff:ff:ff:ff:ff:ff", api.MaxMac},
		{"01:23:45:67:89:ab", 0x0123456789ab},
		{"ab:cd:ef:98:76:54", 0xabcdef987654},
		{"02:00:00:00:00:00", 1 << 41},
		{"00:00:00:00:00:01", 1},
	}
	for _, c := range cases {
		if m, ok := eth.Mac(c.s); m != c.mac || !ok {
			t.Errorf("Mac(%q) = %012x, %v", c.s, m, ok)
		}
		if s := eth.MacText(c.mac); s != c.s {
			t.Errorf("MacText(%012x) = %q", c.mac, s)
		}
	}
}

// P2.3
func TestMacRefuses(t *testing.T) {
	cases := []string{
		"",
		":",
		":::::",
		"0",
		"02:00:00:00:00",
		"02:00:00:00:00:",
		"02:00:00:00:00:0",
		"02:00:00:00:00:000",
		"02:00:00:00:00:00:",
		"02:00:00:00:00:00:00",
		":02:00:00:00:00:00",
		" 02:00:00:00:00:00",
		"02:00:00:00:00:00 ",
		"02:00:00:00:00: 0",
		"02:00:00:00:00:AA",
		"FF:ff:ff:ff:ff:ff",
		"0g:00:00:00:00:00",
		"02:00:00:00:00:0`",
		"02:00:00:00:00:0/",
		"02:00:00:00:00:0:",
		"02:00:00:00:00:0@",
		"02-00-00-00-00-00",
		"02:00:00:00:00.00",
		"02:00:00;00:00:00",
		"0200.0000.0000.00",
		"00200:00:00:00:00",
		"020000000000",
		"02000000000000000",
		"+2:00:00:00:00:00",
		"0x:00:00:00:00:00",
		"2:0:0:0:0:0",
		"02:00:00:00:00:\xff\xff",
		"02:00:00:00:00:é",
		"\x002:00:00:00:00:00",
		strings.Repeat("00:", 1000),
	}
	for _, s := range cases {
		if m, ok := eth.Mac(s); m != 0 || ok {
			t.Errorf("Mac(%q) = %012x, %v", s, m, ok)
		}
	}
}

// P2.3: each byte at each place of a text.
func TestMacByteByByte(t *testing.T) {
	const good = "11:11:11:11:11:11"
	for at := range len(good) {
		for c := range 256 {
			s := good[:at] + string([]byte{byte(c)}) + good[at+1:]
			digit := c >= '0' && c <= '9' || c >= 'a' && c <= 'f'
			want := digit
			if at%3 == 2 {
				want = c == ':'
			}
			if m, ok := eth.Mac(s); ok != want || !want && m != 0 {
				t.Errorf("Mac(%q) = %012x, %v", s, m, ok)
			}
		}
	}
}

// P2.3: what is above 48 bits plays no part.
func TestMacTextOfMore(t *testing.T) {
	if s := eth.MacText(0xffff_0123456789ab); s != "01:23:45:67:89:ab" {
		t.Error(s)
	}
	if s := eth.MacText(api.MaxMac + 1); s != "00:00:00:00:00:00" {
		t.Error(s)
	}
}

// P2.3, P2.4
func TestAddr(t *testing.T) {
	cases := []struct {
		s  string
		ip uint32
	}{
		{"0.0.0.0", 0},
		{"255.255.255.255", 0xffffffff},
		{"1.2.3.4", 0x01020304},
		{"10.0.0.255", 0x0a0000ff},
		{"192.168.100.9", 0xc0a86409},
		{"0.0.0.1", 1},
		{"1.0.0.0", 1 << 24},
		{"199.200.249.250", 0xc7c8f9fa},
	}
	for _, c := range cases {
		if ip, ok := eth.Addr(c.s); ip != c.ip || !ok {
			t.Errorf("Addr(%q) = %08x, %v", c.s, ip, ok)
		}
		if s := eth.AddrText(c.ip); s != c.s {
			t.Errorf("AddrText(%08x) = %q", c.ip, s)
		}
	}
}

// P2.3, R6
func TestAddrRefuses(t *testing.T) {
	cases := []string{
		"",
		".",
		"...",
		"1",
		"1.2.3",
		"1.2.3.",
		"1.2.3.4.",
		"1.2.3.4.5",
		".1.2.3.4",
		"1..2.3",
		"1.2..4",
		"256.0.0.0",
		"0.256.0.0",
		"0.0.0.256",
		"0.0.0.999",
		"1000.0.0.0",
		"0.0.0.1000",
		"0.0.0.4294967296",
		"0.0.0." + strings.Repeat("9", 1000),
		strings.Repeat("0", 1000) + ".0.0.0",
		"01.0.0.0",
		"10.0.0.01",
		"10.0.0.00",
		"10.00.0.1",
		"10.0.0.001",
		"10.0.0.000",
		"010.0.0.1",
		"10.0.0.010",
		" 1.2.3.4",
		"1.2.3.4 ",
		"1.2. 3.4",
		"+1.2.3.4",
		"-1.2.3.4",
		"1.2.3.-4",
		"1.2.3.4a",
		"a.2.3.4",
		"1.2.3.0x4",
		"1,2,3,4",
		"1.2.3:4",
		"1.2.3.4/24",
		"1.2.3./",
		"1.2.3.:",
		"1.2.3.4\x00",
		"1.2.3.\xff",
		"1.2.3.\u0664",
	}
	for _, s := range cases {
		if ip, ok := eth.Addr(s); ip != 0 || ok {
			t.Errorf("Addr(%q) = %08x, %v", s, ip, ok)
		}
	}
}

// P2.3: every number at every place.
func TestAddrEachNumber(t *testing.T) {
	for n := range 256 {
		ip := uint32(n)<<24 | uint32(255-n)<<16 | uint32(n^0x55)<<8 | uint32(n)
		if x, ok := eth.Addr(eth.AddrText(ip)); x != ip || !ok {
			t.Errorf("%08x as %q came back as %08x, %v", ip, eth.AddrText(ip), x, ok)
		}
	}
}

// P2.4
func TestTextsBackAndForth(t *testing.T) {
	r := rand.New(rand.NewSource(1))
	for range 1000 {
		mac := r.Uint64() & api.MaxMac
		if x, ok := eth.Mac(eth.MacText(mac)); x != mac || !ok {
			t.Errorf("%012x as %q came back as %012x, %v", mac, eth.MacText(mac), x, ok)
		}
		ip := r.Uint32()
		if x, ok := eth.Addr(eth.AddrText(ip)); x != ip || !ok {
			t.Errorf("%08x as %q came back as %08x, %v", ip, eth.AddrText(ip), x, ok)
		}
	}
}

// P2.4: a text that is read is the text of what is read.
func TestReadTextsAreTheTexts(t *testing.T) {
	r := rand.New(rand.NewSource(2))
	read := 0
	for range 20000 {
		s := nearAddr(r)
		ip, ok := eth.Addr(s)
		if !ok {
			continue
		}
		read++
		if eth.AddrText(ip) != s {
			t.Errorf("Addr(%q) = %08x, whose text is %q", s, ip, eth.AddrText(ip))
		}
	}
	if read < 100 {
		t.Error("too few were addresses", read)
	}
}

// nearAddr is four parts of one to three digits, with noughts ahead or too great now and then.
func nearAddr(r *rand.Rand) string {
	var parts [4]string
	for i := range parts {
		for range 1 + r.Intn(3) {
			parts[i] += string(rune('0' + r.Intn(6)))
		}
	}
	return strings.Join(parts[:], ".")
}
