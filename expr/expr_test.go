package expr_test

import (
	"math"
	"slices"
	"strconv"
	"testing"

	"skein/api"
	"skein/expr"
	"skein/field"
)

// widths is how many bits each field has, as the document's table says.
var widths = [api.Fields + 1]int{
	0, 48, 48, 16, 17, 16, 48, 32, 48, 32, 32, 32, 8, 8, 8, 16, 8, 8, 16, 16, 12, 8, 24, 16, 16, 32, 32, 32, 32,
}

// The numbers that are no field.
var noFields = []int{0, -1, 29, 64, 256 + 1, 1<<32 + 1, math.MinInt, math.MaxInt}

// full is the mask of all bits of a field.
func full(f int) uint64 {
	return 1<<widths[f] - 1
}

func yes() api.Expr { return api.Expr{Kind: api.ExprTrue} }

func no() api.Expr { return api.Expr{Kind: api.ExprFalse} }

func is(f, op int, v uint64) api.Expr {
	return masked(f, op, v, full(f))
}

func masked(f, op int, v, mask uint64) api.Expr {
	return api.Expr{Kind: api.ExprIs, Field: f, Op: op, Value: v, Mask: mask}
}

func eq(f int, v uint64) api.Expr { return is(f, api.OpEq, v) }

func not(e api.Expr) api.Expr { return api.Expr{Kind: api.ExprNot, Parts: []api.Expr{e}} }

func and(l ...api.Expr) api.Expr { return api.Expr{Kind: api.ExprAnd, Parts: l} }

func or(l ...api.Expr) api.Expr { return api.Expr{Kind: api.ExprOr, Parts: l} }

// times is an expression with so many Nots around it.
func times(n int, e api.Expr) api.Expr {
	for range n {
		e = not(e)
	}
	return e
}

// same holds two expressions against each other: nil and the empty list are the same.
func same(a, b api.Expr) bool {
	return a.Kind == b.Kind && a.Field == b.Field && a.Op == b.Op && a.Value == b.Value && a.Mask == b.Mask &&
		slices.EqualFunc(a.Parts, b.Parts, same)
}

// clone is an expression in memory of its own.
func clone(e api.Expr) api.Expr {
	e.Parts = slices.Clone(e.Parts)
	for i, p := range e.Parts {
		e.Parts[i] = clone(p)
	}
	return e
}

// wipe overwrites all lists of an expression, and what lies in the room behind them.
func wipe(e api.Expr) {
	l := e.Parts[:cap(e.Parts)]
	for i := range l {
		wipe(l[i])
		l[i] = api.Expr{Kind: -7, Field: -7, Op: -7, Value: 7, Mask: 7}
	}
}

// udp, tcp, ping, fragment, arp, other are States of packets as frames say them.
func udp() api.State {
	s := api.State{Ct: api.CtEst | api.CtNat, Dp: 7, In: 3, Out: 4, Regs: [4]uint32{1, 2, 0xffffffff, 0}}
	s.P = api.Packet{
		Eth:  api.Eth{Dst: 0x020000000001, Src: 0x020000000002, Type: api.TypeIp, Tagged: true, Tag: 9},
		IsIp: true,
		Ip:   api.Ip{Src: 0x0a000001, Dst: 0xc0a80102, Proto: api.ProtoUdp, Ttl: 64},
		L4:   api.L4{Kind: api.KindUdp, Sport: 68, Dport: 67},
	}
	return s
}

func tcp() api.State {
	s := udp()
	s.P.Ip.Proto = api.ProtoTcp
	s.P.L4 = api.L4{Kind: api.KindTcp, Sport: 1234, Dport: 80, Flags: 0x12}
	return s
}

func ping() api.State {
	s := udp()
	s.P.Ip.Proto = api.ProtoIcmp
	s.P.L4 = api.L4{Kind: api.KindIcmp, Type: 8}
	return s
}

func fragment() api.State {
	s := udp()
	s.P.Ip.Frag = 7
	s.P.L4 = api.L4{}
	return s
}

func arp() api.State {
	return api.State{P: api.Packet{
		Eth:   api.Eth{Dst: api.MaxMac, Src: 2, Type: api.TypeArp},
		IsArp: true,
		Arp:   api.Arp{Op: 1, Sha: 2, Spa: 3, Tpa: 4},
	}}
}

func other() api.State {
	return api.State{P: api.Packet{Eth: api.Eth{Dst: 1, Src: 2, Type: 0x86dd}, Body: "body"}}
}

func states() []api.State {
	return []api.State{udp(), tcp(), ping(), fragment(), arp(), other(), {}}
}

// rights is expressions that are right, of each kind.
func rights() []api.Expr {
	l := []api.Expr{
		yes(), no(), not(yes()), not(no()), not(not(no())), and(yes(), no()), or(no(), yes()), and(yes(), yes(), yes()), or(no(), no(), no(), no()),
		{Kind: api.ExprTrue, Parts: []api.Expr{}}, masked(api.IpSrc, api.OpEq, 0x0a000000, 0xff000000), masked(api.IpSrc, api.OpNe, 0, 0x80000001),
		not(eq(api.IpTtl, 5)), and(eq(api.IpTtl, 5), or(eq(api.TpDst, 1), not(and(yes(), yes())))), times(64, yes()),
	}
	for f := 1; f <= api.Fields; f++ {
		for op := api.OpEq; op <= api.OpGe; op++ {
			l = append(l, is(f, op, 0), is(f, op, full(f)), is(f, op, 5))
		}
		top := full(f)/2 + 1
		l = append(l, masked(f, api.OpEq, top, top), masked(f, api.OpNe, 0, 1), masked(f, api.OpEq, 1, top|1))
	}
	return l
}

// wrongs is expressions that are not right, by what is wrong with them.
func wrongs() map[string]api.Expr {
	w := map[string]api.Expr{
		"nothing":                  {},
		"Not of nothing":           not(api.Expr{}),
		"Not without a part":       {Kind: api.ExprNot},
		"Not of an empty list":     {Kind: api.ExprNot, Parts: []api.Expr{}},
		"Not of two":               {Kind: api.ExprNot, Parts: []api.Expr{yes(), yes()}},
		"And of none":              and(),
		"And of one":               and(yes()),
		"Or of none":               or(),
		"Or of one":                or(yes()),
		"65 deep":                  times(65, yes()),
		"66 deep":                  times(66, yes()),
		"1000 deep":                times(1000, yes()),
		"And, 65 deep in its last": and(yes(), times(64, yes())),
	}
	for _, kind := range []int{0, -1, 7, 8, 256 + api.ExprTrue, math.MinInt, math.MaxInt} {
		w["kind "+strconv.Itoa(kind)] = api.Expr{Kind: kind}
		w["kind with parts "+strconv.Itoa(kind)] = api.Expr{Kind: kind, Parts: []api.Expr{yes(), yes()}}
		w["kind with a comparison "+strconv.Itoa(kind)] = api.Expr{Kind: kind, Field: api.IpTtl, Op: api.OpEq, Mask: 255}
	}
	for _, e := range []api.Expr{yes(), no(), not(yes()), and(yes(), no()), or(yes(), no())} {
		name := "of kind " + strconv.Itoa(e.Kind)
		wrong := func(what string, x api.Expr) { w[what+" "+name] = x }
		x := e
		x.Field = 1
		wrong("a Field", x)
		x = e
		x.Op = api.OpEq
		wrong("an Op", x)
		x = e
		x.Value = 1
		wrong("a Value", x)
		x = e
		x.Mask = 1
		wrong("a Mask", x)
	}
	for _, e := range []api.Expr{yes(), no(), eq(api.IpTtl, 5)} {
		e.Parts = []api.Expr{yes()}
		w["a part of kind "+strconv.Itoa(e.Kind)] = e
		e.Parts = []api.Expr{yes(), yes()}
		w["parts of kind "+strconv.Itoa(e.Kind)] = e
	}
	wrongComparisons(w)
	return w
}

func wrongComparisons(w map[string]api.Expr) {
	for _, f := range noFields {
		w["no field "+strconv.Itoa(f)] = masked(f, api.OpEq, 1, 1)
		w["no field and no mask "+strconv.Itoa(f)] = masked(f, api.OpEq, 0, 0)
	}
	for _, op := range []int{0, -1, 7, 256 + api.OpEq, math.MinInt, math.MaxInt} {
		w["operator "+strconv.Itoa(op)] = is(api.IpTtl, op, 5)
	}
	for f := 1; f <= api.Fields; f++ {
		name := " of field " + strconv.Itoa(f)
		for op := api.OpEq; op <= api.OpGe; op++ {
			each := name + ", operator " + strconv.Itoa(op)
			w["a Mask 0"+each] = masked(f, op, 0, 0)
			w["a Mask 0 and a Value"+each] = masked(f, op, 1, 0)
			w["a Mask with one bit more"+each] = masked(f, op, 0, 2*full(f)+1)
			w["a Mask of 64 bits"+each] = masked(f, op, 0, math.MaxUint64)
			w["a Mask beyond"+each] = masked(f, op, 0, full(f)+1)
			w["a Value beyond"+each] = masked(f, op, full(f)+1, full(f))
			w["a Value outside of its Mask"+each] = masked(f, op, 3, 1)
			if op >= api.OpLt {
				w["a Mask without a bit"+each] = masked(f, op, 0, full(f)-1)
				w["a Mask without its highest bit"+each] = masked(f, op, 0, full(f)/2)
			}
		}
	}
}

// P15.2: what is right, and what is not, by itself and in each place within others.
func TestCheck(t *testing.T) {
	for _, e := range rights() {
		if f := expr.Check(e); f != api.OK {
			t.Errorf("%+v: %d", e, f)
		}
	}
	for what, e := range wrongs() {
		for place, x := range map[string]api.Expr{
			"": e, " in Not": not(e), " first in And": and(e, yes()), " last in And": and(yes(), no(), e), " first in Or": or(e, yes()),
			" within Or": or(yes(), e, yes()), " deep": or(yes(), not(and(yes(), or(not(e), no())))),
		} {
			if f := expr.Check(x); f != api.ErrExpr {
				t.Errorf("%s%s: %d", what, place, f)
			}
		}
	}
}

// P15.2: how deep an expression may be: its innermost part lies within at most 64 others.
func TestCheckDeep(t *testing.T) {
	nested := map[string]func(e api.Expr) api.Expr{
		"Not":           not,
		"And, the last": func(e api.Expr) api.Expr { return and(yes(), e) },
		"Or, the first": func(e api.Expr) api.Expr { return or(e, no(), no()) },
	}
	for what, around := range nested {
		for _, inner := range []api.Expr{yes(), eq(api.IpTtl, 5)} {
			e := inner
			for depth := range 70 {
				want := api.OK
				if depth > 64 {
					want = api.ErrExpr
				}
				if f := expr.Check(e); f != want {
					t.Errorf("%s, %d deep: %d", what, depth, f)
				}
				e = around(e)
			}
		}
	}
}

// P15.2: each kind as a text.
func TestPrint(t *testing.T) {
	ttl, port := eq(api.IpTtl, 0), is(api.TpDst, api.OpNe, 80)
	for _, c := range []struct {
		e    api.Expr
		want string
	}{
		{yes(), "1"},
		{no(), "0"},
		{ttl, "ip.ttl == 0x0"},
		{port, "tp.dst != 0x50"},
		{is(api.TpSrc, api.OpLt, 0xabc), "tp.src < 0xabc"},
		{is(api.Reg3, api.OpLe, 0xffffffff), "reg3 <= 0xffffffff"},
		{is(api.EthDst, api.OpGt, 0x0123456789ab), "eth.dst > 0x123456789ab"},
		{is(api.Datapath, api.OpGe, 16), "datapath >= 0x10"},
		{masked(api.IpSrc, api.OpEq, 0x0a000000, 0xff000000), "ip4.src == 0xa000000 / 0xff000000"},
		{masked(api.IpTtl, api.OpNe, 0, 1), "ip.ttl != 0x0 / 0x1"},
		{not(yes()), "!1"},
		{not(no()), "!0"},
		{not(not(yes())), "!!1"},
		{not(ttl), "!(ip.ttl == 0x0)"},
		{not(not(ttl)), "!!(ip.ttl == 0x0)"},
		{not(and(ttl, port)), "!(ip.ttl == 0x0 && tp.dst != 0x50)"},
		{not(or(ttl, port)), "!(ip.ttl == 0x0 || tp.dst != 0x50)"},
		{and(ttl, port), "ip.ttl == 0x0 && tp.dst != 0x50"},
		{or(ttl, port, yes()), "ip.ttl == 0x0 || tp.dst != 0x50 || 1"},
		{and(and(ttl, port), or(ttl, port), not(ttl), no(), port), "(ip.ttl == 0x0 && tp.dst != 0x50) && (ip.ttl == 0x0 || tp.dst != 0x50) && !(ip.ttl == 0x0) && 0 && tp.dst != 0x50"},
		{or(and(ttl, port), or(ttl, port), not(ttl), no(), port), "(ip.ttl == 0x0 && tp.dst != 0x50) || (ip.ttl == 0x0 || tp.dst != 0x50) || !(ip.ttl == 0x0) || 0 || tp.dst != 0x50"},
		{and(yes(), or(yes(), and(no(), not(or(no(), no()))))), "1 && (1 || (0 && !(0 || 0)))"},
	} {
		if s := expr.Print(c.e); s != c.want {
			t.Errorf("%+v: %q, not %q", c.e, s, c.want)
		}
	}
	for f := 1; f <= api.Fields; f++ {
		if s, want := expr.Print(eq(f, 1)), field.Name(f)+" == 0x1"; s != want {
			t.Errorf("%q, not %q", s, want)
		}
	}
	for what, e := range wrongs() {
		if s := expr.Print(e) + expr.Print(not(e)) + expr.Print(and(yes(), e)); s != "" {
			t.Errorf("%s: %q", what, s)
		}
	}
}

// P15.3: a comparison: the field must be there, of it as of what denies it.
func TestHoldsIs(t *testing.T) {
	for _, c := range []struct {
		s    api.State
		e    api.Expr
		want bool
	}{
		{udp(), eq(api.IpTtl, 64), true},
		{udp(), eq(api.IpTtl, 63), false},
		{udp(), is(api.IpTtl, api.OpNe, 64), false},
		{udp(), is(api.IpTtl, api.OpNe, 63), true},
		{udp(), is(api.IpTtl, api.OpLt, 64), false},
		{udp(), is(api.IpTtl, api.OpLt, 65), true},
		{udp(), is(api.IpTtl, api.OpLe, 63), false},
		{udp(), is(api.IpTtl, api.OpLe, 64), true},
		{udp(), is(api.IpTtl, api.OpGt, 64), false},
		{udp(), is(api.IpTtl, api.OpGt, 63), true},
		{udp(), is(api.IpTtl, api.OpGe, 65), false},
		{udp(), is(api.IpTtl, api.OpGe, 64), true},
		{udp(), is(api.Reg3, api.OpLt, 0), false},
		{udp(), is(api.Reg2, api.OpGt, math.MaxUint32), false},
		{udp(), is(api.Reg2, api.OpGe, math.MaxUint32), true},
		{udp(), masked(api.IpSrc, api.OpEq, 0x0a000000, 0xff000000), true},
		{udp(), masked(api.IpSrc, api.OpEq, 0x0b000000, 0xff000000), false},
		{udp(), masked(api.IpSrc, api.OpNe, 0x0a000000, 0xff000000), false},
		{udp(), masked(api.IpSrc, api.OpNe, 0x0b000000, 0xff000000), true},
		{udp(), masked(api.CtState, api.OpEq, api.CtEst, api.CtEst), true},
		{udp(), masked(api.CtState, api.OpEq, 0, api.CtReply), true},
		{udp(), eq(api.VlanTag, 65536+9), true},
		{arp(), eq(api.VlanTag, 0), true},
		{arp(), eq(api.ArpOp, 1), true},
		{tcp(), masked(api.TcpFlags, api.OpEq, 2, 2), true},
	} {
		denied := expr.Deny(c.e)
		if expr.Holds(c.e, c.s) != c.want || expr.Holds(not(c.e), c.s) == c.want || expr.Holds(denied, c.s) == c.want || expr.Holds(not(denied), c.s) != c.want {
			t.Errorf("%s: not %v", expr.Print(c.e), c.want)
		}
	}
	for f := 1; f <= api.Fields; f++ {
		for _, s := range states() {
			for op := api.OpEq; op <= api.OpGe && !field.Has(s, f); op++ {
				for _, e := range []api.Expr{is(f, op, 0), is(f, op, 5), is(f, op, full(f))} {
					if expr.Holds(e, s) || expr.Holds(not(e), s) || expr.Holds(expr.Deny(e), s) || expr.Holds(not(not(e)), s) {
						t.Errorf("%s holds of a State that has it not", expr.Print(e))
					}
				}
			}
		}
	}
}

// P15.3: what others say together, and what they deny: of a field that is not there neither holds.
func TestHolds(t *testing.T) {
	a, b, gone := eq(api.IpTtl, 64), eq(api.IpTtl, 63), eq(api.ArpOp, 1)
	for _, c := range []struct {
		e            api.Expr
		want, denied bool
	}{
		{yes(), true, false},
		{no(), false, true},
		{a, true, false},
		{b, false, true},
		{gone, false, false},
		{and(a, a), true, false},
		{and(a, b), false, true},
		{and(b, a), false, true},
		{and(a, a, b), false, true},
		{and(a, gone), false, false},
		{and(gone, a), false, false},
		{and(b, gone), false, true},
		{and(gone, b), false, true},
		{or(a, b), true, false},
		{or(b, a), true, false},
		{or(b, b, a), true, false},
		{or(b, b), false, true},
		{or(a, gone), true, false},
		{or(gone, a), true, false},
		{or(gone, b), false, false},
		{or(b, gone), false, false},
		{or(gone, no()), false, false},
		{and(gone, yes()), false, false},
		{and(gone, no()), false, true},
		{or(gone, yes()), true, false},
		{or(gone, not(gone)), false, false},
		{and(not(b), or(gone, a)), true, false},
		{or(not(a), and(gone, b)), false, true},
		{not(and(not(a), gone)), true, false},
		{not(or(not(b), gone)), false, true},
	} {
		for n, want := range []bool{c.want, c.denied, c.want, c.denied, c.want} {
			if expr.Holds(times(n, c.e), udp()) != want {
				t.Errorf("%s: not %v", expr.Print(times(n, c.e)), want)
			}
		}
		if expr.Holds(expr.Deny(c.e), udp()) != c.denied || expr.Holds(expr.Deny(expr.Deny(c.e)), udp()) != c.want {
			t.Errorf("Deny of %s", expr.Print(c.e))
		}
	}
}

// P15.3: what Check refuses never holds, and is denied by itself.
func TestWrong(t *testing.T) {
	for what, e := range wrongs() {
		kept := clone(e)
		for _, x := range []api.Expr{e, not(e), not(not(e)), or(yes(), e), and(yes(), e), or(e, yes())} {
			for _, s := range states() {
				if expr.Holds(x, s) {
					t.Errorf("%s holds", what)
				}
			}
			if d := expr.Deny(x); !same(d, x) {
				t.Errorf("Deny of %s: %+v", what, d)
			}
		}
		wipe(expr.Deny(e))
		if !same(e, kept) {
			t.Errorf("Deny of %s shares memory with it", what)
		}
	}
}

// P15.3: what Check refuses because it is too deep is denied by itself, in all its parts, as deep as the document
// promises anything and beyond.
func TestWrongDeep(t *testing.T) {
	rounds := map[string]func(e api.Expr) api.Expr{
		"Not":        not,
		"And, first": func(e api.Expr) api.Expr { return and(e, eq(api.IpTtl, 5)) },
		"Or, last":   func(e api.Expr) api.Expr { return or(no(), eq(api.TpDst, 5), e) },
		"Is with parts": func(e api.Expr) api.Expr {
			return api.Expr{Kind: api.ExprIs, Field: 3, Op: 4, Value: 5, Mask: 6, Parts: []api.Expr{e}}
		},
	}
	for what, around := range rounds {
		for _, depth := range []int{65, 1<<16 - 1, 1 << 16, 1<<16 + 1, 1 << 17} {
			e := masked(api.IpSrc, api.OpEq, 0x0a000000, 0xff000000)
			for range depth {
				e = around(e)
			}
			d := expr.Deny(e)
			if !same(d, e) || expr.Check(e) != api.ErrExpr || expr.Print(e) != "" {
				t.Errorf("%s, %d deep", what, depth)
			}
			kept := clone(e)
			wipe(d)
			if !same(e, kept) {
				t.Errorf("%s, %d deep: Deny shares memory with it", what, depth)
			}
		}
	}
}

// R3: lists that lie in an expression twice lie in an answer each in memory of its own.
func TestDenySharesNothing(t *testing.T) {
	twice := []api.Expr{yes(), not(no())}
	for what, e := range map[string]api.Expr{
		"right": and(or(twice...), or(twice...)),
		"wrong": and(or(twice...), or(twice...), or(twice[:1]...)),
	} {
		d := expr.Deny(e)
		kept := clone(api.Expr{Parts: d.Parts[1:]})
		wipe(d.Parts[0])
		if !same(api.Expr{Parts: d.Parts[1:]}, kept) {
			t.Errorf("%s: %+v", what, d)
		}
	}
}

// P15.3: Ops turned, kinds exchanged, Nots taken off.
func TestDeny(t *testing.T) {
	a, turnedA := eq(api.IpTtl, 5), is(api.IpTtl, api.OpNe, 5)
	b, turnedB := is(api.TpDst, api.OpLt, 9), is(api.TpDst, api.OpGe, 9)
	c, turnedC := is(api.TpDst, api.OpLe, 9), is(api.TpDst, api.OpGt, 9)
	d, turnedD := masked(api.IpSrc, api.OpEq, 0x0a000000, 0xff000000), masked(api.IpSrc, api.OpNe, 0x0a000000, 0xff000000)
	for _, x := range []struct{ e, want, twice api.Expr }{
		{yes(), no(), yes()},
		{no(), yes(), no()},
		{a, turnedA, a},
		{b, turnedB, b},
		{c, turnedC, c},
		{d, turnedD, d},
		{turnedA, a, turnedA},
		{turnedB, b, turnedB},
		{turnedC, c, turnedC},
		{turnedD, d, turnedD},
		{not(a), a, turnedA},
		{not(yes()), yes(), no()},
		{not(not(a)), turnedA, a},
		{times(3, b), b, turnedB},
		{and(a, b), or(turnedA, turnedB), and(a, b)},
		{or(a, b, c), and(turnedA, turnedB, turnedC), or(a, b, c)},
		{not(and(a, b)), and(a, b), or(turnedA, turnedB)},
		{not(or(a, b)), or(a, b), and(turnedA, turnedB)},
		{and(not(a), b), or(a, turnedB), and(turnedA, b)},
		{not(and(not(a), b)), and(turnedA, b), or(a, turnedB)},
		{and(not(not(a)), not(or(not(b), d))), or(turnedA, or(turnedB, d)), and(a, and(b, turnedD))},
		{and(and(a, b), or(yes(), no())), or(or(turnedA, turnedB), and(no(), yes())), and(and(a, b), or(yes(), no()))},
		{times(64, a), turnedA, a},
		{times(63, a), a, turnedA},
	} {
		kept := clone(x.e)
		denied := expr.Deny(x.e)
		if twice := expr.Deny(denied); !same(denied, x.want) || !same(twice, x.twice) {
			t.Errorf("%s: %s, twice %s", expr.Print(x.e), expr.Print(denied), expr.Print(twice))
		}
		wipe(denied)
		if !same(x.e, kept) {
			t.Errorf("%s: Deny shares memory with it", expr.Print(kept))
		}
	}
}

// R1: an expression that lies within itself, by as many of its parts as there are, is refused, and denied by itself.
func TestWithinItselfByAll(t *testing.T) {
	l := make([]api.Expr, 3)
	for i, kind := range []int{api.ExprAnd, api.ExprOr, api.ExprNot} {
		l[i] = api.Expr{Kind: kind, Parts: l[:3-i]}
	}
	for _, e := range l {
		d := expr.Deny(e)
		for at := range 1000 {
			if d.Kind != e.Kind || len(d.Parts) != len(e.Parts) || &d.Parts[0] == &e.Parts[0] {
				t.Fatalf("within %d others: %d with %d parts, not %d with %d", at, d.Kind, len(d.Parts), e.Kind, len(e.Parts))
			}
			part := at * 7 % len(e.Parts)
			d, e = d.Parts[part], e.Parts[part]
		}
	}
}

// R1: an expression that lies within itself is refused.
func TestWithinItself(t *testing.T) {
	for _, kind := range []int{api.ExprNot, api.ExprAnd, api.ExprOr} {
		e := api.Expr{Kind: kind, Parts: []api.Expr{yes(), yes()}}
		if kind == api.ExprNot {
			e.Parts = e.Parts[:1]
		}
		e.Parts[len(e.Parts)-1] = e
		if expr.Check(e) != api.ErrExpr || expr.Print(e) != "" || expr.Holds(e, udp()) || expr.Deny(e).Kind != kind {
			t.Errorf("kind %d", kind)
		}
	}
}
