package norm_test

import (
	"maps"
	"math/rand"
	"slices"
	"testing"

	"skein/api"
	"skein/expr"
	"skein/field"
	"skein/match"
	"skein/norm"
	"skein/packet"
)

// cut is the list of a range, from the field's bits downwards: a node of the tree of prefixes that lies wholly
// within the range is one match, others are their halves'.
func cut(f int, from, to, first uint64, wanted int) [][]api.Term {
	size := uint64(1) << (widths[f] - wanted)
	last := first + size - 1
	switch {
	case last < from || to < first:
		return nil
	case from <= first && last <= to && wanted > 0:
		return lists(list(term(f, first, full(f)-(size-1))))
	}
	return append(cut(f, from, to, first, wanted+1), cut(f, from, to, first+size/2, wanted+1)...)
}

// P16.1: every range of a field with 8 bits takes in just its numbers.
func TestAllRanges(t *testing.T) {
	for from := range uint64(256) {
		for to := from; to < 256; to++ {
			l := norm.Range(api.CtState, from, to)
			if !sameLists(l, cut(api.CtState, from, to, 0, 0)) {
				t.Fatalf("%d to %d: %v", from, to, l)
			}
			if (from*7+to)%61 > 0 {
				continue
			}
			for n := range uint64(256) {
				if norm.Holds(l, api.State{Ct: int(n)}) != (from <= n && n <= to) {
					t.Fatalf("%d to %d: %d", from, to, n)
				}
			}
		}
	}
}

// P16.1: ranges of all fields.
func TestRanges(t *testing.T) {
	r := rand.New(rand.NewSource(16))
	for i := range 20000 {
		f := 1 + r.Intn(api.Fields)
		from, to := r.Uint64()&full(f)>>r.Intn(50), r.Uint64()&full(f)>>r.Intn(50)
		switch i % 4 {
		case 0:
			from &= full(f) << r.Intn(widths[f]) // ends that lie at ends of prefixes
			to |= full(f) >> r.Intn(widths[f])
		case 1:
			to = full(f)
		}
		l := norm.Range(f, from, to)
		if from > to && len(l) > 0 || from <= to && !sameLists(l, cut(f, from, to, 0, 0)) {
			t.Fatalf("%d: %x to %x: %v", f, from, to, l)
		}
	}
}

// isNormal tells whether a list is normal, as the words have it.
func isNormal(l [][]api.Term) bool {
	for i, m := range l {
		if match.Check(m) != api.OK || i > 0 && match.Text(l[i-1]) >= match.Text(m) {
			return false
		}
		for _, x := range m {
			if !match.Implies(m, field.Needs(x.Field)) {
				return false
			}
		}
		for j, other := range l {
			if i != j && match.Implies(m, other) {
				return false
			}
		}
	}
	return true
}

// wants is a match as what it wants of each bit: a field and a bit's place, and 0 or 1.
type wants map[[2]int]int

func wantsOf(m []api.Term) wants {
	w := wants{}
	for _, x := range m {
		for bit := range 64 {
			if x.Mask>>bit&1 == 1 {
				w[[2]int{x.Field, bit}] = int(x.Value >> bit & 1)
			}
		}
	}
	return w
}

// terms is the match again.
func (w wants) terms() []api.Term {
	var masks, values [api.Fields + 1]uint64
	for at, v := range w {
		masks[at[0]] |= 1 << at[1]
		values[at[0]] |= uint64(v) << at[1]
	}
	var l []api.Term
	for f, mask := range masks {
		if mask != 0 {
			l = append(l, term(f, values[f], mask))
		}
	}
	return l
}

// with is what both want, if that can be.
func (w wants) with(other wants) (wants, bool) {
	both := maps.Clone(w)
	for at, v := range other {
		if old, ok := both[at]; ok && old != v {
			return nil, false
		}
		both[at] = v
	}
	return both, true
}

// includes tells whether w wants all that other wants.
func (w wants) includes(other wants) bool {
	for at, v := range other {
		if old, ok := w[at]; !ok || old != v {
			return false
		}
	}
	return true
}

// simple is Simplify: each match is held against all others.
func simple(l []wants) []wants {
	var wholes, out []wants
	for _, w := range l {
		ok := true
		for at := range maps.Clone(w) {
			if ok {
				w, ok = w.with(wantsOf(field.Needs(at[0])))
			}
		}
		if ok {
			wholes = append(wholes, w)
		}
	}
	for i, w := range wholes {
		left := false
		for j, other := range wholes {
			if i != j && w.includes(other) && (j < i || !other.includes(w)) {
				left = true
			}
		}
		if !left {
			out = append(out, w)
		}
	}
	text := func(w wants) string { return match.Text(w.terms()) }
	slices.SortFunc(out, func(a, b wants) int {
		if text(a) < text(b) {
			return -1
		}
		return 1
	})
	return out
}

// numbers is the wants of a comparison.
func numbers(e api.Expr) []wants {
	var l []wants
	if e.Op == api.OpEq {
		return []wants{wantsOf(list(term(e.Field, e.Value, e.Mask)))}
	}
	if e.Op == api.OpNe {
		for bit := range 64 {
			if e.Mask>>bit&1 == 1 {
				l = append(l, wants{{e.Field, bit}: int(1 - e.Value>>bit&1)})
			}
		}
		return l
	}
	from, to := uint64(0), full(e.Field)
	switch {
	case e.Op == api.OpLt && e.Value == 0, e.Op == api.OpGt && e.Value == to:
		return nil
	case e.Op == api.OpLt:
		to = e.Value - 1
	case e.Op == api.OpLe:
		to = e.Value
	case e.Op == api.OpGt:
		from = e.Value + 1
	default:
		from = e.Value
	}
	for _, m := range cut(e.Field, from, to, 0, 0) {
		l = append(l, wantsOf(m))
	}
	return l
}

// lay is the wants of an expression without Not, as the words have it.
func lay(e api.Expr, wide *bool) []wants {
	var l []wants
	switch e.Kind {
	case api.ExprTrue:
		return []wants{{}}
	case api.ExprIs:
		l = numbers(e)
	case api.ExprOr:
		for _, p := range e.Parts {
			l = append(l, lay(p, wide)...)
		}
	case api.ExprAnd:
		l = []wants{{}}
		for _, p := range e.Parts {
			var next []wants
			part := lay(p, wide)
			for _, a := range l {
				for _, b := range part {
					if both, ok := a.with(b); ok && !*wide {
						next = append(next, both)
						*wide = len(next) > 128
					}
				}
			}
			l = simple(next)
		}
	}
	*wide = *wide || len(l) > 128
	return l
}

// model is Normal.
func model(e api.Expr) ([][]api.Term, api.Errno) {
	wide := false
	l := lay(expr.Deny(expr.Deny(e)), &wide)
	if wide {
		return nil, api.ErrWide
	}
	var out [][]api.Term
	for _, w := range simple(l) {
		out = append(out, w.terms())
	}
	return out, api.OK
}

// frames is States of frames that were read.
func frames(t *testing.T, r *rand.Rand, n int) []api.State {
	t.Helper()
	var l []api.State
	for range n {
		p := api.Packet{Eth: api.Eth{Dst: r.Uint64() & api.MaxMac, Src: uint64(r.Intn(4)), Tagged: r.Intn(3) == 0}}
		if p.Eth.Tagged {
			p.Eth.Tag = r.Intn(4)
		}
		switch kind := r.Intn(6); kind {
		case 0:
			p.Eth.Type, p.Body = 0x86dd, "body"
		case 1:
			p.Eth.Type, p.IsArp = api.TypeArp, true
			p.Arp = api.Arp{Op: r.Intn(3), Sha: uint64(r.Intn(3)), Spa: uint32(r.Intn(3)), Tha: uint64(r.Intn(3)), Tpa: r.Uint32()}
		default:
			p.Eth.Type, p.IsIp = api.TypeIp, true
			p.Ip = api.Ip{Tos: r.Intn(4), Ttl: r.Intn(256), Src: 0x0a000000 + uint32(r.Intn(4)), Dst: r.Uint32(), Proto: []int{99, api.ProtoIcmp, api.ProtoUdp, api.ProtoTcp}[kind-2]}
			p.L4 = []api.L4{
				{Kind: api.KindOpaque, Data: "data"},
				{Kind: api.KindIcmp, Type: r.Intn(9), Code: r.Intn(2)},
				{Kind: api.KindUdp, Sport: r.Intn(4), Dport: r.Intn(65536)},
				{Kind: api.KindTcp, Sport: r.Intn(4), Dport: 80, Flags: r.Intn(64)},
			}[kind-2]
		}
		frame, f := packet.Print(p)
		if f != api.OK {
			t.Fatalf("%+v: %d", p, f)
		}
		read, f := packet.Parse(frame)
		if f != api.OK {
			t.Fatalf("%+v: %d", p, f)
		}
		l = append(l, api.State{P: read, Ct: r.Intn(16), Dp: r.Intn(3), In: r.Intn(3), Out: r.Intn(3), Regs: [4]uint32{r.Uint32(), uint32(r.Intn(3))}})
	}
	return l
}

// tree is an expression at random that speaks of what States have.
func tree(r *rand.Rand, states []api.State, depth int) api.Expr {
	kind := r.Intn(9)
	switch {
	case kind == 0:
		return api.Expr{Kind: api.ExprTrue + r.Intn(2)}
	case kind < 3 && depth > 0:
		return api.Expr{Kind: api.ExprNot, Parts: []api.Expr{tree(r, states, depth-1)}}
	case kind < 8 && depth > 0:
		e := api.Expr{Kind: api.ExprAnd + kind%2}
		for range 2 + r.Intn(2) {
			e.Parts = append(e.Parts, tree(r, states, r.Intn(depth)))
		}
		return e
	}
	f := []int{1 + r.Intn(api.Fields), api.EthType, api.IpProto, api.IpTtl, api.ArpOp, api.TpDst, api.CtState, api.IcmpType}[r.Intn(8)]
	v, _ := field.Get(states[r.Intn(len(states))], f)
	op := []int{api.OpEq, api.OpEq, api.OpEq, api.OpNe, api.OpLt, api.OpLe, api.OpGt, api.OpGe}[r.Intn(8)]
	mask := full(f)
	if op <= api.OpNe && r.Intn(2) == 0 {
		mask = r.Uint64()&r.Uint64()&full(f) | 1<<r.Intn(widths[f])
	}
	return api.Expr{Kind: api.ExprIs, Field: f, Op: op, Value: v & mask, Mask: mask}
}

// P16.3 to P16.5: Normal is as the words have it, normal, stays so, and holds just where the expression does.
func TestTrees(t *testing.T) {
	r := rand.New(rand.NewSource(17))
	states := frames(t, r, 60)
	told := map[api.Errno]int{}
	for range 2000 {
		e := tree(r, states, 4)
		l, f := norm.Normal(e)
		want, wantFault := model(e)
		if f != wantFault || !sameLists(l, want) {
			t.Fatalf("%q: %d, %q, not %d, %q", expr.Print(e), f, texts(l), wantFault, texts(want))
		}
		told[f]++
		if f != api.OK {
			continue
		}
		if !isNormal(l) || !sameLists(norm.Simplify(l), l) {
			t.Fatalf("%q: %q", expr.Print(e), texts(l))
		}
		for _, s := range states {
			if norm.Holds(l, s) != expr.Holds(e, s) {
				t.Fatalf("%q: %q: %v of %+v", expr.Print(e), texts(l), norm.Holds(l, s), s)
			}
		}
	}
	if told[api.OK] < 1000 || told[api.ErrWide] < 50 {
		t.Errorf("%v", told)
	}
}

// P16.2: Simplify of lists at random, of which many are not in form, or imply one another.
func TestLists(t *testing.T) {
	r := rand.New(rand.NewSource(18))
	for range 4000 {
		var l [][]api.Term
		var right []wants
		for range r.Intn(9) {
			var m []api.Term
			for f := 1 + r.Intn(20); f <= api.Fields; f += r.Intn(16) + 1 {
				mask := uint64(1+r.Intn(3)) & full(f)
				m = append(m, term(f, r.Uint64()&mask, mask))
			}
			if len(m) > 1 && r.Intn(6) == 0 {
				m[r.Intn(len(m))] = []api.Term{term(0, 1, 1), term(29, 1, 1), term(5, 0, 0), term(5, 2, 1), term(5, 0, 1<<16)}[r.Intn(5)]
			}
			l = append(l, m)
			if match.Check(m) == api.OK {
				right = append(right, wantsOf(m))
			}
		}
		var want [][]api.Term
		for _, w := range simple(right) {
			want = append(want, w.terms())
		}
		got := norm.Simplify(l)
		if !sameLists(got, want) || !isNormal(got) {
			t.Fatalf("%q: %q, not %q", texts(l), texts(got), texts(want))
		}
	}
}
