package norm_test

import (
	"math"
	"slices"
	"testing"

	"skein/api"
	"skein/expr"
	"skein/match"
	"skein/norm"
)

// widths is how many bits each field has, as the document's table says.
var widths = [api.Fields + 1]int{
	0, 48, 48, 16, 17, 16, 48, 32, 48, 32, 32, 32, 8, 8, 8, 16, 8, 8, 16, 16, 12, 8, 24, 16, 16, 32, 32, 32, 32,
}

// full is the mask of all bits of a field.
func full(f int) uint64 {
	return 1<<widths[f] - 1
}

func term(f int, value, mask uint64) api.Term {
	return api.Term{Field: f, Value: value, Mask: mask}
}

// exactly is the term of a field all of whose bits are v's.
func exactly(f int, v uint64) api.Term {
	return term(f, v, full(f))
}

func list(l ...api.Term) []api.Term {
	return l
}

func lists(l ...[]api.Term) [][]api.Term {
	return l
}

func sameLists(a, b [][]api.Term) bool {
	return slices.EqualFunc(a, b, slices.Equal[[]api.Term])
}

func texts(l [][]api.Term) []string {
	var out []string
	for _, m := range l {
		out = append(out, match.Text(m))
	}
	return out
}

// parsed is the expression of a text.
func parsed(t *testing.T, s string) api.Expr {
	t.Helper()
	e, f, at := expr.Parse(s, nil)
	if f != api.OK {
		t.Fatalf("%q: %d at %d", s, f, at)
	}
	return e
}

// tells asks for the matches of a text, as texts.
func tells(t *testing.T, s string, want ...string) {
	t.Helper()
	l, f := norm.Normal(parsed(t, s))
	if f != api.OK || !slices.Equal(texts(l), want) {
		t.Errorf("%q: %d, %q, not %q", s, f, texts(l), want)
	}
}

// isWide asks that there are too many.
func isWide(t *testing.T, s string) {
	t.Helper()
	if l, f := norm.Normal(parsed(t, s)); f != api.ErrWide || len(l) != 0 {
		t.Errorf("%q: %d, %d matches", s, f, len(l))
	}
}

// count asks how many matches there are.
func count(t *testing.T, s string, want int) {
	t.Helper()
	if l, f := norm.Normal(parsed(t, s)); f != api.OK || len(l) != want {
		t.Errorf("%q: %d, %d matches", s, f, len(l))
	}
}

// P16.3: the document's examples.
func TestExamples(t *testing.T) {
	tells(t, "tp.dst < 3", "eth.type == 0x800 && tp.dst == 0x0 / 0xfffe", "eth.type == 0x800 && tp.dst == 0x2")
	tells(t, "arp && ip4")
}

// P16.1: ranges that are told in the words, and their edges.
func TestRange(t *testing.T) {
	ttl := func(value, mask uint64) []api.Term { return list(term(api.IpTtl, value, mask)) }
	for _, c := range []struct {
		from, to uint64
		want     [][]api.Term
	}{
		{0, 0, lists(ttl(0, 255))},
		{5, 5, lists(ttl(5, 255))},
		{255, 255, lists(ttl(255, 255))},
		{0, 1, lists(ttl(0, 254))},
		{1, 2, lists(ttl(1, 255), ttl(2, 255))},
		{0, 2, lists(ttl(0, 254), ttl(2, 255))},
		{1, 3, lists(ttl(1, 255), ttl(2, 254))},
		{0, 127, lists(ttl(0, 128))},
		{128, 255, lists(ttl(128, 128))},
		{0, 255, lists(ttl(0, 128), ttl(128, 128))},
		{1, 255, lists(ttl(1, 255), ttl(2, 254), ttl(4, 252), ttl(8, 248), ttl(16, 240), ttl(32, 224), ttl(64, 192), ttl(128, 128))},
		{0, 254, lists(ttl(0, 128), ttl(128, 192), ttl(192, 224), ttl(224, 240), ttl(240, 248), ttl(248, 252), ttl(252, 254), ttl(254, 255))},
		{127, 128, lists(ttl(127, 255), ttl(128, 255))},
		{64, 191, lists(ttl(64, 192), ttl(128, 192))},
		{252, 255, lists(ttl(252, 252))},
		{1, 0, nil},
		{255, 254, nil},
		{0, 256, nil},
		{256, 256, nil},
		{255, 256, nil},
		{0, math.MaxUint64, nil},
		{math.MaxUint64, math.MaxUint64, nil},
		{math.MaxUint64, 0, nil},
	} {
		if l := norm.Range(api.IpTtl, c.from, c.to); !sameLists(l, c.want) {
			t.Errorf("%d to %d: %v", c.from, c.to, l)
		}
	}
	for _, f := range []int{0, -1, 29, 64, 256 + 1, 1<<32 + 1, math.MinInt, math.MaxInt} {
		if l := append(norm.Range(f, 0, 0), norm.Range(f, 0, math.MaxUint64)...); len(l) != 0 {
			t.Errorf("no field %d: %v", f, l)
		}
	}
	for f := 1; f <= api.Fields; f++ {
		last, top := full(f), full(f)/2+1
		if l := norm.Range(f, 0, last); !sameLists(l, lists(list(term(f, 0, top)), list(term(f, top, top)))) {
			t.Errorf("all of field %d: %v", f, l)
		}
		if l := norm.Range(f, last, last); !sameLists(l, lists(list(exactly(f, last)))) {
			t.Errorf("the last of field %d: %v", f, l)
		}
		if l := append(norm.Range(f, 0, last+1), norm.Range(f, last+1, last+1)...); len(l) != 0 {
			t.Errorf("beyond field %d: %v", f, l)
		}
		if l := norm.Range(f, 1, last-1); len(l) != 2*widths[f]-2 {
			t.Errorf("the longest list of field %d: %d", f, len(l))
		}
	}
}

// P16.2
func TestSimplify(t *testing.T) {
	ip, arp := exactly(api.EthType, 0x800), exactly(api.EthType, 0x806)
	net, host := term(api.IpSrc, 0x0a000000, 0xff000000), exactly(api.IpSrc, 0x0a000001)
	one, two := exactly(api.Reg0, 1), exactly(api.Reg1, 2)
	for _, c := range []struct {
		what    string
		l, want [][]api.Term
	}{
		{"none", nil, nil},
		{"an empty list", lists(), nil},
		{"one without terms", lists(nil), lists(nil)},
		{"one", lists(list(one)), lists(list(one))},
		{"made whole", lists(list(net)), lists(list(ip, net))},
		{"whole already", lists(list(ip, net)), lists(list(ip, net))},
		{"twice", lists(list(one), list(one)), lists(list(one))},
		{"twice when whole", lists(list(net), list(ip, net)), lists(list(ip, net))},
		{"by rising Text", lists(list(two), list(one), list(ip)), lists(list(ip), list(one), list(two))},
		{"numbers by their texts", lists(list(exactly(api.Reg0, 2)), list(exactly(api.Reg0, 0x10))), lists(list(exactly(api.Reg0, 0x10)), list(exactly(api.Reg0, 2)))},
		{"one implies the other", lists(list(one, two), list(one)), lists(list(one))},
		{"the other implies the one", lists(list(two), list(one, two)), lists(list(two))},
		{"under masks", lists(list(host), list(net)), lists(list(ip, net))},
		{"a chain", lists(list(one, two), list(one), nil), lists(nil)},
		{"all imply the one without terms", lists(nil, list(net), list(arp)), lists(nil)},
		{"implied when whole alone", lists(list(net), list(ip)), lists(list(ip))},
		{"neither", lists(list(term(api.Reg0, 1, 1)), list(term(api.Reg0, 2, 2))), lists(list(term(api.Reg0, 1, 1)), list(term(api.Reg0, 2, 2)))},
		{"can't be whole", lists(list(arp, net)), nil},
		{"two needs that can't be together", lists(list(exactly(api.ArpOp, 1), net)), nil},
		{"can't be whole, implied by none", lists(list(one, exactly(api.ArpOp, 1), net), list(one)), lists(list(one))},
		{"can't be whole, yet implied", lists(list(arp, net), list(arp, net, one)), nil},
		{"falling fields", lists(list(two, one)), nil},
		{"a field twice", lists(list(one, one), list(two)), lists(list(two))},
		{"no field", lists(list(term(29, 1, 1)), list(term(0, 0, 0)), list(term(-1, 1, 1))), nil},
		{"a Mask 0", lists(list(term(api.Reg0, 0, 0)), list(one)), lists(list(one))},
		{"a Mask beyond", lists(list(term(api.IpTtl, 0, 511)), list(one)), lists(list(one))},
		{"a Value outside", lists(list(term(api.IpTtl, 3, 1)), list(one)), lists(list(one))},
	} {
		l := norm.Simplify(c.l)
		if !sameLists(l, c.want) {
			t.Errorf("%s: %v", c.what, l)
		}
		slices.Reverse(c.l)
		if !sameLists(norm.Simplify(c.l), l) || !sameLists(norm.Simplify(l), l) {
			t.Errorf("%s: the other way round, and again", c.what)
		}
	}
}

// P16.3: one comparison with each operator, and its edges.
func TestComparisons(t *testing.T) {
	ttl := func(l ...string) []string {
		for i := range l {
			l[i] = "eth.type == 0x800 && ip.ttl == " + l[i]
		}
		return l
	}
	all := ttl("0x0 / 0x80", "0x80 / 0x80")
	for s, want := range map[string][]string{
		"== 5":       ttl("0x5"),
		"== 5/7":     ttl("0x5 / 0x7"),
		"== 0/1":     ttl("0x0 / 0x1"),
		"!= 5":       ttl("0x0 / 0x1", "0x0 / 0x4", "0x10 / 0x10", "0x2 / 0x2", "0x20 / 0x20", "0x40 / 0x40", "0x8 / 0x8", "0x80 / 0x80"),
		"!= 5/7":     ttl("0x0 / 0x1", "0x0 / 0x4", "0x2 / 0x2"),
		"!= 0x80/80": ttl("0x10 / 0x10", "0x40 / 0x40"),
		"!= 1/1":     ttl("0x0 / 0x1"),
		"< 0":        nil,
		"< 1":        ttl("0x0"),
		"< 2":        ttl("0x0 / 0xfe"),
		"< 255":      ttl("0x0 / 0x80", "0x80 / 0xc0", "0xc0 / 0xe0", "0xe0 / 0xf0", "0xf0 / 0xf8", "0xf8 / 0xfc", "0xfc / 0xfe", "0xfe"),
		"<= 0":       ttl("0x0"),
		"<= 127":     ttl("0x0 / 0x80"),
		"<= 254":     ttl("0x0 / 0x80", "0x80 / 0xc0", "0xc0 / 0xe0", "0xe0 / 0xf0", "0xf0 / 0xf8", "0xf8 / 0xfc", "0xfc / 0xfe", "0xfe"),
		"<= 255":     all,
		"> 255":      nil,
		"> 254":      ttl("0xff"),
		"> 127":      ttl("0x80 / 0x80"),
		"> 0":        ttl("0x1", "0x10 / 0xf0", "0x2 / 0xfe", "0x20 / 0xe0", "0x4 / 0xfc", "0x40 / 0xc0", "0x8 / 0xf8", "0x80 / 0x80"),
		">= 255":     ttl("0xff"),
		">= 128":     ttl("0x80 / 0x80"),
		">= 0":       all,
	} {
		tells(t, "ip.ttl "+s, want...)
	}
	tells(t, "reg0 >= 0", "reg0 == 0x0 / 0x80000000", "reg0 == 0x80000000 / 0x80000000")
	count(t, "eth.dst != 5", 48)
	count(t, "eth.dst > 0", 48)
}

// P16.3: what is joined and denied.
func TestNormal(t *testing.T) {
	tells(t, "1", "")
	tells(t, "0")
	tells(t, "!0", "")
	tells(t, "!1")
	tells(t, "1 || reg0 == 1", "")
	tells(t, "0 || reg0 == 1", "reg0 == 0x1")
	tells(t, "1 && reg0 == 1", "reg0 == 0x1")
	tells(t, "reg0 == 1 && 1 && !0", "reg0 == 0x1")
	tells(t, "0 && reg0 == 1")
	tells(t, "reg0 == 1 && 0")
	tells(t, "reg0 == 1 && reg0 == 2")
	tells(t, "reg0 == 1 && reg0 == 1", "reg0 == 0x1")
	tells(t, "reg0 == 1/1 && reg0 == 2/2", "reg0 == 0x3 / 0x3")
	tells(t, "reg0 == 1 || reg0 == 1", "reg0 == 0x1")
	tells(t, "reg1 == 1 || reg0 == 1", "reg0 == 0x1", "reg1 == 0x1")
	tells(t, "(reg1 == 1 || reg0 == 1) && (reg2 == 1 || reg3 == 1)", "reg0 == 0x1 && reg2 == 0x1", "reg0 == 0x1 && reg3 == 0x1", "reg1 == 0x1 && reg2 == 0x1", "reg1 == 0x1 && reg3 == 0x1")
	tells(t, "(reg1 == 1 || reg0 == 1) && (reg0 == 2 || reg0 == 1)", "reg0 == 0x1", "reg0 == 0x2 && reg1 == 0x1")
	tells(t, "arp && icmp")
	tells(t, "icmp && tcp")
	tells(t, "arp && tp.dst == 80")
	tells(t, "tp.dst == 80 && arp")
	tells(t, "icmp.type == 8 && tcp.flags == 2")
	tells(t, "arp.op == 1 || ip.ttl == 1 && arp", "eth.type == 0x806 && arp.op == 0x1")
	tells(t, "eth.type == 0x86dd && ip.ttl == 1")
	tells(t, "icmp", "eth.type == 0x800 && ip.proto == 0x1")
	tells(t, "icmp.type == 8", "eth.type == 0x800 && ip.proto == 0x1 && icmp.type == 0x8")
	tells(t, "tcp && tp.dst == {443, 80}", "eth.type == 0x800 && ip.proto == 0x6 && tp.dst == 0x1bb", "eth.type == 0x800 && ip.proto == 0x6 && tp.dst == 0x50")
	tells(t, "ip4.src == 10.0.0.0/8 || ip4.src == 10.1.0.0/16 || ip4.src == 11.0.0.1", "eth.type == 0x800 && ip4.src == 0xa000000 / 0xff000000", "eth.type == 0x800 && ip4.src == 0xb000001")
	tells(t, "!(ip.ttl != 5 || ip.tos >= 128)", "eth.type == 0x800 && ip.ttl == 0x5 && ip.tos == 0x0 / 0x80")
	tells(t, "!(ip.ttl != 5 && !(ip.tos >= 128))", "eth.type == 0x800 && ip.tos == 0x80 / 0x80", "eth.type == 0x800 && ip.ttl == 0x5")
	tells(t, "!!(reg0 == 1 && !(reg1 > 0))", "reg0 == 0x1 && reg1 == 0x0")
	count(t, "!arp", 16)
	count(t, "!icmp", 24)
}

// P16.3: 128 matches, and one more, at any time.
func TestWide(t *testing.T) {
	const four = "reg0 != 0 || reg1 != 0 || reg2 != 0 || reg3 != 0" // 32 matches each
	count(t, four, 128)
	isWide(t, four+" || inport == 1")
	isWide(t, "inport == 1 || "+four)
	isWide(t, four+" || reg0 == 1") // those that would not stay are counted, too
	isWide(t, four+" || 1")
	isWide(t, "1 || "+four)
	count(t, four+" || 0", 128)
	count(t, "ct.state != 0 && inport != 0", 128)
	isWide(t, "ct.state != 0 && vlan.tag != 0")
	count(t, "inport == {1, 2, 3} && (reg0 != 0 || reg1 != 0/0x3ff)", 126)
	isWide(t, "inport == {1, 2, 3} && (reg0 != 0 || reg1 != 0/0x7ff)") // 129
	count(t, "("+four+") && inport == 1", 128)
	isWide(t, "("+four+") && inport == {1, 2}")
	isWide(t, "inport == {1, 2} && ("+four+")")
	count(t, "("+four+") && (inport == 1 || 0)", 128)
	isWide(t, "("+four+") && inport == {1, 1}")
	isWide(t, "0 && ("+four+" || inport == 1)")
	isWide(t, "1 || 0 && ("+four+" || inport == 1)")
	tells(t, "("+four+") && 0")
	count(t, "(inport == {1, 1, 1, 1}) && ("+four+")", 128) // simplified behind the first part
	isWide(t, "tp.dst != {80, 443}")
	count(t, "ip.ttl != {1, 2}", 8)
	isWide(t, "reg0 != 0 && reg1 != 0")
	isWide(t, "!(reg0 == 0 || reg1 == 0)")
	count(t, "!(reg0 == 0 && reg1 == 0 && reg2 == 0 && reg3 == 0)", 128)
	isWide(t, "!(reg0 == 0 && reg1 == 0 && reg2 == 0 && reg3 == 0 && inport == 1/1)")
}

// P16.3: what Check refuses.
func TestWrong(t *testing.T) {
	yes := api.Expr{Kind: api.ExprTrue}
	deep := yes
	for range 64 {
		deep = api.Expr{Kind: api.ExprNot, Parts: []api.Expr{deep}}
	}
	if l, f := norm.Normal(deep); f != api.OK || len(l) != 1 || len(l[0]) != 0 {
		t.Errorf("64 deep: %v, %d", l, f)
	}
	for what, e := range map[string]api.Expr{
		"nothing":        {},
		"a kind":         {Kind: 7},
		"And of one":     {Kind: api.ExprAnd, Parts: []api.Expr{yes}},
		"Or of none":     {Kind: api.ExprOr},
		"Not of two":     {Kind: api.ExprNot, Parts: []api.Expr{yes, yes}},
		"no field":       {Kind: api.ExprIs, Field: 29, Op: api.OpEq, Mask: 1},
		"no mask":        {Kind: api.ExprIs, Field: api.Reg0, Op: api.OpEq},
		"no operator":    {Kind: api.ExprIs, Field: api.Reg0, Mask: 1},
		"a mask of Lt":   {Kind: api.ExprIs, Field: api.Reg0, Op: api.OpLt, Mask: 1},
		"a value":        {Kind: api.ExprIs, Field: api.Reg0, Op: api.OpNe, Value: 2, Mask: 1},
		"deep in others": {Kind: api.ExprOr, Parts: []api.Expr{yes, {Kind: api.ExprAnd, Parts: []api.Expr{yes, {}}}}},
		"65 deep":        {Kind: api.ExprNot, Parts: []api.Expr{deep}},
	} {
		if l, f := norm.Normal(e); f != api.ErrExpr || len(l) != 0 {
			t.Errorf("%s: %v, %d", what, l, f)
		}
	}
}

// P16.3: Holds, also of lists that are not normal.
func TestHolds(t *testing.T) {
	s := api.State{In: 3, Regs: [4]uint32{1, 2}}
	in, one, two := exactly(api.InPort, 3), exactly(api.Reg0, 1), exactly(api.Reg0, 2)
	for _, c := range []struct {
		what string
		l    [][]api.Term
		want bool
	}{
		{"none", nil, false},
		{"one without terms", lists(nil), true},
		{"one", lists(list(one)), true},
		{"another one", lists(list(two)), false},
		{"the first", lists(list(one), list(two)), true},
		{"the last", lists(list(two), list(two), list(in, one)), true},
		{"no one", lists(list(two), list(in, two)), false},
		{"falling fields", lists(list(one, in)), true},
		{"a field that it has not", lists(list(exactly(api.IpTtl, 0))), false},
		{"no field", lists(list(term(29, 0, 0))), false},
		{"behind no field", lists(list(term(29, 0, 0)), list(in)), true},
	} {
		if ok := norm.Holds(c.l, s); ok != c.want {
			t.Errorf("%s: %v", c.what, ok)
		}
	}
}

// R3: what is handed in is not changed, and answers share nothing.
func TestApart(t *testing.T) {
	spoil := func(l [][]api.Term) {
		for _, m := range l {
			for i := range m[:cap(m)] {
				m[:cap(m)][i] = term(-7, 7, 7)
			}
		}
	}
	whole := lists(list(exactly(api.EthType, 0x800), exactly(api.IpTtl, 5)), list(exactly(api.Reg0, 1)))
	room := append(whole, list(exactly(api.Reg3, 9)))
	l := norm.Simplify(whole)
	want := texts(l)
	spoil(l)
	if again := norm.Simplify(whole); !slices.Equal(texts(again), want) || match.Text(room[2]) != "reg3 == 0x9" {
		t.Errorf("Simplify: %q", texts(again))
	}
	l = norm.Range(api.IpTtl, 1, 254)
	l[0] = append(l[0], term(1, 1, 1))
	spoil(l[:1])
	if !sameLists(l[1:], norm.Range(api.IpTtl, 1, 254)[1:]) {
		t.Errorf("Range: %v", l)
	}
	e := parsed(t, "!(ip.ttl < 5 || !(reg0 == {1, 2}))")
	text := expr.Print(e)
	l, _ = norm.Normal(e)
	want = texts(l)
	spoil(l[:1])
	if again, _ := norm.Normal(e); expr.Print(e) != text || !slices.Equal(texts(again), want) || !slices.Equal(texts(l[1:]), want[1:]) {
		t.Errorf("Normal: %q", texts(again))
	}
}
