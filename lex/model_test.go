package lex_test

import (
	"math/big"
	"math/rand"
	"net/netip"
	"regexp"
	"slices"
	"strings"
	"testing"

	"skein/api"
	"skein/eth"
	"skein/lex"
)

// pattern is what tokens of a kind look like.
type pattern struct {
	kind int
	form *regexp.Regexp
}

// longestForm is a pattern of the longest text of that form at a text's start.
func longestForm(form string) *regexp.Regexp {
	x := regexp.MustCompile("^(" + form + ")")
	x.Longest()
	return x
}

// model is Tokens as the document's words have it: at each place all kinds are tried.
type model struct {
	blank    *regexp.Regexp
	word     *regexp.Regexp // what may not follow a number
	patterns []pattern
}

func newModel() model {
	const octet = `(25[0-5]|2[0-4][0-9]|1[0-9][0-9]|[1-9]?[0-9])`
	return model{
		blank: longestForm("([ \t\n\r]|#[^\n]*)*"),
		word:  longestForm(`[A-Za-z0-9_]`),
		patterns: []pattern{
			{api.TokName, longestForm(`[A-Za-z_][A-Za-z0-9_.]*`)},
			{api.TokNumber, longestForm(`0|[1-9][0-9]*|0x[0-9a-f]{1,16}`)},
			{api.TokMac, longestForm(`([0-9a-f][0-9a-f]:){5}[0-9a-f][0-9a-f]`)},
			{api.TokAddr, longestForm(octet + `(\.` + octet + `){3}`)},
			{api.TokOp, longestForm(`&&|\|\||==|!=|<=|>=|<|>|!|\(|\)|\{|\}|,|/|\.\.`)},
			{api.TokText, longestForm(`"[ !#-\[\]-~]{0,64}"`)},
		},
	}
}

// at is the token at the start of a text.
func (m model) at(s string) (api.Token, int) {
	var found api.Token
	for _, p := range m.patterns {
		if x := p.form.FindString(s); x != "" && len(x) >= len(found.Text) {
			found = api.Token{Kind: p.kind, Text: x}
		}
	}
	size := len(found.Text)
	switch found.Kind {
	case api.TokNumber:
		x, ok := new(big.Int).SetString(found.Text, 0)
		if m.word.MatchString(s[size:]) || !ok || !x.IsUint64() {
			return api.Token{}, 0
		}
		found.Num = x.Uint64()
	case api.TokMac:
		found.Num, _ = eth.Mac(found.Text)
	case api.TokAddr:
		b := netip.MustParseAddr(found.Text).As4()
		found.Num = new(big.Int).SetBytes(b[:]).Uint64()
	case api.TokText:
		found.Text = found.Text[1 : size-1]
	}
	return found, size
}

func (m model) tokens(s string) ([]api.Token, api.Errno, int) {
	var l []api.Token
	for at := 0; ; {
		at += len(m.blank.FindString(s[at:]))
		if at == len(s) {
			return append(l, end(at)), api.OK, 0
		}
		x, size := m.at(s[at:])
		if size == 0 {
			return nil, api.ErrLex, at
		}
		l = append(l, shifted(x, at))
		at += size
	}
}

// randomText is pieces that lie close to one another, so that tokens meet.
func randomText(r *rand.Rand) string {
	pieces := []string{
		"0", "1", "9", "25", "255", "256", "00", "x", "a", "f", "g", "_", ".", "..", ":", "0x", "0xf", "tp.dst", "G",
		"1.2.3.4", "10.0.0.", ".0.0.1", "02:00:00:00:00:01", "ab:cd:", "ef:00:11:22", "18446744073709551615", "0123456789abcdef",
		"==", "=", "!", "<", ">", "&&", "&", "|", "||", "(", "}", ",", "/", "\"", "\"p 1\"", "\\", "#", "# no\n", "\n", "\xff", "\x00",
	}
	var s strings.Builder
	for range r.Intn(7) {
		s.WriteString(pieces[r.Intn(len(pieces))])
		for r.Intn(2) == 0 {
			s.WriteByte(" \t\r\n  "[r.Intn(6)])
		}
	}
	return s.String()
}

// randomRight is a text of tokens alone.
func randomRight(r *rand.Rand) string {
	var s strings.Builder
	for range r.Intn(12) {
		s.WriteString(ones()[r.Intn(len(ones()))].text)
		s.WriteString([]string{" ", "\n", "(", ",", "# x\n", "  "}[r.Intn(6)])
	}
	return s.String()
}

// again asks that what Join tells of tokens is read as the same ones.
func again(t *testing.T, s string, l []api.Token) {
	t.Helper()
	joined := lex.Join(l)
	if len(joined) > api.MaxExpr {
		return
	}
	x, e, _ := lex.Tokens(joined)
	same := func(a, b api.Token) bool { return shifted(a, 0) == shifted(b, 0) }
	if !slices.EqualFunc(x, l, same) || e != api.OK || lex.Join(x) != joined {
		t.Errorf("%q: joined %q: %v, %d, not %v", s, joined, x, e, l)
	}
}

// P14.1, P14.2: as the document's words have it, of all that comes in.
func TestModel(t *testing.T) {
	r := rand.New(rand.NewSource(14))
	m := newModel()
	told := 0
	for i := range 60000 {
		s := randomText(r)
		if i%4 == 0 {
			s = randomRight(r)
		}
		l, e, at := lex.Tokens(s)
		want, wantError, wantAt := m.tokens(s)
		if !slices.Equal(l, want) || e != wantError || at != wantAt {
			t.Fatalf("%q: %v, %d, %d, not %v, %d, %d", s, l, e, at, want, wantError, wantAt)
		}
		if e == api.OK {
			told++
			again(t, s, l)
		}
	}
	if told < 5000 || told > 55000 {
		t.Errorf("%d of the texts are right", told)
	}
}

// P14.2: at the bound.
func TestAgainLong(t *testing.T) {
	for _, s := range []string{strings.Repeat("a ", 2048), strings.Repeat("(", 2048), strings.Repeat("1,", 1024), strings.Repeat(`""`, 1365)} {
		l, e, _ := lex.Tokens(s)
		if e != api.OK {
			t.Fatalf("%d", e)
		}
		again(t, s, l)
	}
}

// R1: any bytes end without a panic.
func FuzzTokens(f *testing.F) {
	f.Add("ip4.src==10.0.0.0/8 && \"x\" # y")
	f.Add("0x 1b \"")
	m := newModel()
	f.Fuzz(func(t *testing.T, s string) {
		l, e, at := lex.Tokens(s)
		if len(s) > api.MaxExpr {
			return
		}
		want, wantError, wantAt := m.tokens(s)
		if !slices.Equal(l, want) || e != wantError || at != wantAt {
			t.Fatalf("%q: %v, %d, %d, not %v, %d, %d", s, l, e, at, want, wantError, wantAt)
		}
		if e == api.OK {
			again(t, s, l)
		}
	})
}
