package lex_test

import (
	"math"
	"slices"
	"strings"
	"testing"

	"skein/api"
	"skein/lex"
)

func token(kind int, text string, num uint64, at int) api.Token {
	return api.Token{Kind: kind, Text: text, Num: num, At: at}
}

func end(at int) api.Token {
	return token(api.TokEnd, "", 0, at)
}

// tells asks for the tokens of a text, but for the end.
func tells(t *testing.T, s string, want ...api.Token) {
	t.Helper()
	l, e, at := lex.Tokens(s)
	if !slices.Equal(l, append(want, end(len(s)))) || e != api.OK || at != 0 {
		t.Errorf("%q: %v, %d, %d, not %v", s, l, e, at, want)
	}
}

// refuses asks for a fault at a place, and nothing beside it.
func refuses(t *testing.T, s string, place int) {
	t.Helper()
	if l, e, at := lex.Tokens(s); len(l) != 0 || e != api.ErrLex || at != place {
		t.Errorf("%q: %v, %d, %d, not a fault at %d", s, l, e, at, place)
	}
}

// one is a token by itself, as it stands in a text and as it is told (at place 0).
type one struct {
	text string
	want api.Token
}

// ones is tokens of every kind.
func ones() []one {
	return []one{
		{"a", token(api.TokName, "a", 0, 0)},
		{"ip4.src", token(api.TokName, "ip4.src", 0, 0)},
		{"_", token(api.TokName, "_", 0, 0)},
		{"Z_9..", token(api.TokName, "Z_9..", 0, 0)},
		{"0", token(api.TokNumber, "0", 0, 0)},
		{"4096", token(api.TokNumber, "4096", 4096, 0)},
		{"0x0", token(api.TokNumber, "0x0", 0, 0)},
		{"0x50", token(api.TokNumber, "0x50", 80, 0)},
		{"02:00:00:00:00:01", token(api.TokMac, "02:00:00:00:00:01", 1<<41+1, 0)},
		{"ff:ff:ff:ff:ff:ff", token(api.TokMac, "ff:ff:ff:ff:ff:ff", api.MaxMac, 0)},
		{"10.0.0.1", token(api.TokAddr, "10.0.0.1", 0x0a000001, 0)},
		{"255.255.255.255", token(api.TokAddr, "255.255.255.255", math.MaxUint32, 0)},
		{"==", token(api.TokOp, "==", 0, 0)},
		{"!", token(api.TokOp, "!", 0, 0)},
		{"..", token(api.TokOp, "..", 0, 0)},
		{`"p1"`, token(api.TokText, "p1", 0, 0)},
		{`""`, token(api.TokText, "", 0, 0)},
		{`"# && 1b"`, token(api.TokText, "# && 1b", 0, 0)},
	}
}

// shifted is a token at another place.
func shifted(t api.Token, at int) api.Token {
	t.At = at
	return t
}

// P14.1: the document's example.
func TestExample(t *testing.T) {
	tells(t, "ip4.src==10.0.0.0/8",
		token(api.TokName, "ip4.src", 0, 0), token(api.TokOp, "==", 0, 7), token(api.TokAddr, "10.0.0.0", 167772160, 9),
		token(api.TokOp, "/", 0, 17), token(api.TokNumber, "8", 8, 18))
}

// P14.1: every kind alone, at a text's start, within it and at its end.
func TestPlacesOfKinds(t *testing.T) {
	for _, x := range ones() {
		n := len(x.text)
		open, shut := token(api.TokOp, "(", 0, 0), token(api.TokOp, ")", 0, 0)
		tells(t, x.text, x.want)
		tells(t, x.text+")", x.want, shifted(shut, n))
		tells(t, "("+x.text, open, shifted(x.want, 1))
		tells(t, "("+x.text+")", open, shifted(x.want, 1), shifted(shut, n+1))
		tells(t, " \t"+x.text+"\r\n", shifted(x.want, 2))
		tells(t, x.text+"#"+x.text, x.want)
		for _, y := range ones() {
			tells(t, x.text+" "+y.text, x.want, shifted(y.want, n+1))
		}
	}
}

// P14.1: no text, blanks, comments.
func TestBlanks(t *testing.T) {
	for _, s := range []string{"", " ", "\t", "\n", "\r", " \t\n\r", "#", "# a && 1b", "#\n", "##\n#", "# \"\n", "#\r", "#\r01", "# \x00\xff\n", "\n\n#x\n\n"} {
		tells(t, s)
	}
	tells(t, "a#b\nc", token(api.TokName, "a", 0, 0), token(api.TokName, "c", 0, 4))
	tells(t, "a#b#c", token(api.TokName, "a", 0, 0))
	tells(t, "1#2", token(api.TokNumber, "1", 1, 0))
	tells(t, "# first\n\t1\r\n", token(api.TokNumber, "1", 1, 9))
	refuses(t, "# first\n\t01", 9)
}

// P14.1: what a single byte is.
func TestBytes(t *testing.T) {
	for c := range 256 {
		s := string([]byte{byte(c)})
		switch {
		case c == ' ' || c == '\t' || c == '\n' || c == '\r' || c == '#':
			tells(t, s)
		case 'a' <= c && c <= 'z' || 'A' <= c && c <= 'Z' || c == '_':
			tells(t, s, token(api.TokName, s, 0, 0))
		case '0' <= c && c <= '9':
			tells(t, s, token(api.TokNumber, s, uint64(c-'0'), 0))
		case c != 0 && strings.Contains("<>!(){},/", s):
			tells(t, s, token(api.TokOp, s, 0, 0))
		default:
			refuses(t, s, 0)
			refuses(t, "a "+s, 2)
		}
	}
}

// P14.1: names end where another byte stands.
func TestNames(t *testing.T) {
	for _, s := range []string{"a1", "a.1", "a..b", "_0x", "x_", "A.", "e1.2.3.4", "ab", "abcdef", "Reg0", "a02"} {
		tells(t, s, token(api.TokName, s, 0, 0))
	}
	for c := range 256 {
		s := "n" + string([]byte{byte(c)})
		isName := 'a' <= c && c <= 'z' || 'A' <= c && c <= 'Z' || '0' <= c && c <= '9' || c == '_' || c == '.'
		if l, _, _ := lex.Tokens(s); isName != (len(l) == 2 && l[0] == token(api.TokName, s, 0, 0)) {
			t.Errorf("%q: %v", s, l)
		}
	}
	refuses(t, "ä", 0)
	refuses(t, "aä", 1)
	refuses(t, ".a", 0)
	refuses(t, "a02:00:00:00:00:01", 3)
}

// P14.1: numbers that are right.
func TestNumbers(t *testing.T) {
	for s, num := range map[string]uint64{
		"0": 0, "7": 7, "10": 10, "18446744073709551615": math.MaxUint64, "18446744073709551609": math.MaxUint64 - 6,
		"0x0": 0, "0x00": 0, "0x0000000000000000": 0, "0x000000000000000f": 15, "0xffffffffffffffff": math.MaxUint64, "0xabcdef": 0xabcdef, "0x9": 9,
	} {
		tells(t, s, token(api.TokNumber, s, num, 0))
		tells(t, s+"..", token(api.TokNumber, s, num, 0), token(api.TokOp, "..", 0, len(s)))
		tells(t, s+`"g"`, token(api.TokNumber, s, num, 0), token(api.TokText, "g", 0, len(s)))
		for _, c := range []string{"g", "A", "F", "Z", "z", "_"} {
			refuses(t, s+c, 0)
			refuses(t, "a && "+s+c, 5)
		}
		refuses(t, s+".", len(s))
		refuses(t, s+".5", len(s))
	}
	tells(t, "1..5", token(api.TokNumber, "1", 1, 0), token(api.TokOp, "..", 0, 1), token(api.TokNumber, "5", 5, 3))
	tells(t, "0..0x5", token(api.TokNumber, "0", 0, 0), token(api.TokOp, "..", 0, 1), token(api.TokNumber, "0x5", 5, 3))
}

// P14.1: numbers that are not right.
func TestNumbersRefused(t *testing.T) {
	for _, s := range []string{
		"00", "01", "007", "0123456789", "00x1", "0000000000000000000000", "00.0.0.0", "01.2.3.4",
		"0x", "0x ", "0xg", "0x_", "0xA", "0xF0", "0X1", "0x.", "0x)", "0x0x1", "0x1G", "0x1F", "0x1x",
		"0x00000000000000000", "0x00000000000000001", "0xfffffffffffffffff", "0x10000000000000000",
		"18446744073709551616", "18446744073709551620", "20000000000000000000", "99999999999999999999999999", strings.Repeat("9", 4096),
		"1b", "1a:", "9_", "1_000", "2e5", "0a:00:00:00:00", "0a:00:00:00:00:0g", "1st.name",
	} {
		refuses(t, s, 0)
		if len(s) < 4000 {
			refuses(t, "x == "+s, 5)
			refuses(t, "("+s, 1)
		}
	}
}

// P14.1: addresses, also those that a number or a name begins; the longest one that stands there.
func TestAddresses(t *testing.T) {
	mac := func(s string, num uint64, at int) api.Token { return token(api.TokMac, s, num, at) }
	addr := func(s string, num uint64, at int) api.Token { return token(api.TokAddr, s, num, at) }
	number := func(s string, num uint64, at int) api.Token { return token(api.TokNumber, s, num, at) }
	name := func(s string, at int) api.Token { return token(api.TokName, s, 0, at) }
	tells(t, "ab:cd:ef:01:23:45", mac("ab:cd:ef:01:23:45", 0xabcdef012345, 0))
	tells(t, "a0:00:00:00:00:00", mac("a0:00:00:00:00:00", 0xa0<<40, 0))
	tells(t, "12:00:00:00:00:00", mac("12:00:00:00:00:00", 0x12<<40, 0))
	tells(t, "1e:00:00:00:00:00", mac("1e:00:00:00:00:00", 0x1e<<40, 0))
	tells(t, "00:00:00:00:00:00", mac("00:00:00:00:00:00", 0, 0))
	tells(t, "00:00:00:00:00:00/00:00:00:00:00:01", mac("00:00:00:00:00:00", 0, 0), token(api.TokOp, "/", 0, 17), mac("00:00:00:00:00:01", 1, 18))
	tells(t, "00:00:00:00:00:012", mac("00:00:00:00:00:01", 1, 0), number("2", 2, 17))
	tells(t, "00:00:00:00:00:01ab", mac("00:00:00:00:00:01", 1, 0), name("ab", 17))
	tells(t, "0.0.0.0", addr("0.0.0.0", 0, 0))
	tells(t, "1.2.3.4", addr("1.2.3.4", 0x01020304, 0))
	tells(t, "249.250.199.100", addr("249.250.199.100", 0xf9fac764, 0))
	tells(t, "1.2.3.4..5", addr("1.2.3.4", 0x01020304, 0), token(api.TokOp, "..", 0, 7), number("5", 5, 9))
	tells(t, "1.2.3.4..1.2.3.5", addr("1.2.3.4", 0x01020304, 0), token(api.TokOp, "..", 0, 7), addr("1.2.3.5", 0x01020305, 9))
	tells(t, "1.2.3.256", addr("1.2.3.25", 0x01020319, 0), number("6", 6, 8))
	tells(t, "1.2.3.2555", addr("1.2.3.255", 0x010203ff, 0), number("5", 5, 9))
	tells(t, "1.2.3.00", addr("1.2.3.0", 0x01020300, 0), number("0", 0, 7))
	tells(t, "1.2.3.4a", addr("1.2.3.4", 0x01020304, 0), name("a", 7))
	tells(t, "1.2.3.4_", addr("1.2.3.4", 0x01020304, 0), name("_", 7))
	for s, at := range map[string]int{
		"1.2.3": 1, "1.2.3.": 1, "1.2.3.x": 1, "1.2..3": 1, "256.1.1.1": 3, "1.256.1.1": 1, "1.2.03.4": 1, "1.2.3.4.5": 7, "1.2.3.2555a": 9, "1.2.3.001": 7,
		"ab:cd:ef:01:23": 2, "ab:cd:ef:01:23:4": 2, "AB:cd:ef:01:23:45": 2, "ab:CD:ef:01:23:45": 2, "ab-cd-ef-01-23-45": 2,
		"00:00:00:00:00:01:02": 17, "12:00:00:00:00:0": 2, "02:00:00:00:00:0": 0, "0:00:00:00:00:01": 1, "00:00:00:00:00:019a": 17,
	} {
		refuses(t, s, at)
	}
}

// P14.1: every operator, and what they are behind one another: the longest one first.
func TestOperators(t *testing.T) {
	two := []string{"&&", "||", "==", "!=", "<=", ">=", ".."}
	single := []string{"<", ">", "!", "(", ")", "{", "}", ",", "/"}
	for _, s := range slices.Concat(two, single) {
		tells(t, s, token(api.TokOp, s, 0, 0))
		tells(t, "1"+s+"1", token(api.TokNumber, "1", 1, 0), token(api.TokOp, s, 0, 1), token(api.TokNumber, "1", 1, 1+len(s)))
	}
	for _, s := range []string{"&", "|", "=", "."} {
		refuses(t, s, 0)
		refuses(t, s+" "+s, 0)
		refuses(t, s+s+s, 2)
		refuses(t, "a "+s, 2)
	}
	const all = "&|=!<>(){},/."
	for _, a := range all {
		for _, b := range all {
			s := string(a) + string(b)
			switch {
			case slices.Contains(two, s):
			case !slices.Contains(single, s[:1]):
				refuses(t, s, 0)
			case !slices.Contains(single, s[1:]):
				refuses(t, s, 1)
			default:
				tells(t, s, token(api.TokOp, s[:1], 0, 0), token(api.TokOp, s[1:], 0, 1))
			}
		}
	}
	tells(t, "!!=", token(api.TokOp, "!", 0, 0), token(api.TokOp, "!=", 0, 1))
	tells(t, "....", token(api.TokOp, "..", 0, 0), token(api.TokOp, "..", 0, 2))
	refuses(t, "...", 2)
	refuses(t, "<==", 2)
	refuses(t, "x = 1", 2)
}

// P14.1: texts: their bytes, how many, their end.
func TestTexts(t *testing.T) {
	var right strings.Builder
	for c := range 256 {
		b := string([]byte{byte(c)})
		switch {
		case c == '"':
		case c < 32 || c > 126 || c == '\\':
			refuses(t, `x "a`+b+`z"`, 2)
			refuses(t, `x "`+b+`"`, 2)
			refuses(t, `x "a`+b, 2)
		default:
			right.WriteString(b)
			tells(t, `"`+b+`"`, token(api.TokText, b, 0, 0))
			tells(t, `"a`+b+`z"`, token(api.TokText, "a"+b+"z", 0, 0))
		}
	}
	for n := range 67 {
		s := right.String()[:n]
		if n <= 64 {
			tells(t, `"`+s+`"`, token(api.TokText, s, 0, 0))
			tells(t, `"`+s+`""`+s+`"`, token(api.TokText, s, 0, 0), token(api.TokText, s, 0, n+2))
		} else {
			refuses(t, `"`+s+`"`, 0)
			refuses(t, `1 "`+s+`"`, 2)
		}
		refuses(t, `"`+s, 0)
		refuses(t, `12 "`+s, 3)
		refuses(t, `"`+s+"\n\"", 0)
	}
	tells(t, `a"b"c`, token(api.TokName, "a", 0, 0), token(api.TokText, "b", 0, 1), token(api.TokName, "c", 0, 4))
	refuses(t, `"a" "`, 4)
	refuses(t, `'a'`, 0)
}

// P14.1: texts at and beyond the bound.
func TestLong(t *testing.T) {
	long := strings.Repeat("a", 4096)
	tells(t, long, token(api.TokName, long, 0, 0))
	tells(t, strings.Repeat(" ", 4096))
	tells(t, strings.Repeat(" ", 4095)+"7", token(api.TokNumber, "7", 7, 4095))
	tells(t, "#"+strings.Repeat("\"", 4095))
	l, e, _ := lex.Tokens(strings.Repeat("(", 4096))
	if len(l) != 4097 || e != api.OK || l[4095] != token(api.TokOp, "(", 0, 4095) || l[4096] != end(4096) {
		t.Errorf("%d tokens, %d", len(l), e)
	}
	refuses(t, strings.Repeat(" ", 4095)+"=", 4095)
	for _, s := range []string{long + "a", strings.Repeat(" ", 4097), "#" + long, "=" + long, strings.Repeat("01 ", 5000)} {
		if l, e, at := lex.Tokens(s); len(l) != 0 || e != api.ErrLong || at != 0 {
			t.Errorf("%d bytes: %v, %d, %d", len(s), l, e, at)
		}
	}
}

// P14.1: of several faults the first one is told.
func TestFirstFault(t *testing.T) {
	refuses(t, `a = 01 "`, 2)
	refuses(t, `a == 01 = "`, 5)
	refuses(t, `a == " = 01`, 5)
	refuses(t, `a == 1b && 2c`, 5)
	refuses(t, `a && 1b`, 5)
	refuses(t, "\xff\xfe", 0)
}

// P14.2
func TestJoin(t *testing.T) {
	for _, c := range []struct {
		l    []api.Token
		want string
	}{
		{nil, ""},
		{[]api.Token{}, ""},
		{[]api.Token{end(0)}, ""},
		{[]api.Token{end(5), end(7)}, ""},
		{[]api.Token{{Kind: api.TokEnd, Text: "x", Num: 5}}, ""},
		{[]api.Token{token(api.TokName, "a", 0, 9)}, "a"},
		{[]api.Token{token(api.TokName, "a", 0, 0), end(1)}, "a"},
		{[]api.Token{end(1), token(api.TokName, "a", 0, 0)}, "a"},
		{[]api.Token{token(api.TokName, "a", 0, 0), end(1), token(api.TokName, "b", 0, 0)}, "a b"},
		{[]api.Token{token(api.TokText, "", 0, 0)}, `""`},
		{[]api.Token{token(api.TokText, "a b", 0, 0), token(api.TokOp, "..", 0, 0), token(api.TokText, `"`, 0, 0)}, `"a b" .. """`},
		{[]api.Token{token(api.TokNumber, "0x5", 7, 0), token(api.TokMac, "m", 0, 0), token(api.TokAddr, "1.2.3.4", 0, 0)}, "0x5 m 1.2.3.4"},
		{[]api.Token{token(api.TokName, "", 0, 0), token(api.TokName, "", 0, 0)}, " "},
		{[]api.Token{token(0, "x", 0, 0), token(-5, "y", 0, 0), token(8, "z", 0, 0)}, "x y z"},
	} {
		if s := lex.Join(c.l); s != c.want {
			t.Errorf("%v: %q, not %q", c.l, s, c.want)
		}
	}
	long := strings.Repeat("ab", 5000)
	if s := lex.Join([]api.Token{token(api.TokName, long, 0, 0), token(api.TokText, long, 0, 0)}); s != long+` "`+long+`"` {
		t.Errorf("a long one: %d bytes", len(s))
	}
}

// R3: what is handed in is not changed, and answers share nothing.
func TestApart(t *testing.T) {
	const s = "a == 1"
	a, _, _ := lex.Tokens(s)
	b, _, _ := lex.Tokens(s)
	_ = append(a[:1], token(api.TokOp, "!", 0, 0))
	tells(t, s, b[:3]...)
	room := []api.Token{token(api.TokName, "a", 0, 0), end(1), token(api.TokText, "t", 0, 0)}
	kept := slices.Clone(room)
	if lex.Join(room[:2]) != "a" || !slices.Equal(room, kept) {
		t.Errorf("%v", room)
	}
}
