package expr_test

import (
	"math/rand"
	"slices"
	"strconv"
	"strings"
	"testing"

	"skein/api"
	"skein/expr"
	"skein/field"
	"skein/lex"
)

// What may stand next in a text.
const (
	aPart = iota
	anOperator
	aConstant
	aMask
	behindConstant // a mask may follow
	behindMask
	behindPart
)

// machine goes over the tokens one by one, without parts that lie in one another: what is around is a list.
type machine struct {
	names  []api.Name
	state  int
	around []string // the ! and ( that are open
	field  int
	op     string
	kind   int // the last constant's
	inSet  bool
	wrong  []int // places of faults of types
	deep   []int // places of tokens that lie too deep
}

// done ends a part, and with it each ! right ahead of it.
func (m *machine) done() {
	m.state = behindPart
	for len(m.around) > 0 && m.around[len(m.around)-1] == "!" {
		m.around = m.around[:len(m.around)-1]
	}
}

func (m *machine) masks() bool {
	return m.op == "==" || m.op == "!="
}

// takes tells whether a token may stand there, and goes on behind it.
func (m *machine) takes(t api.Token) bool {
	if len(m.around) > 32 {
		m.deep = append(m.deep, t.At)
	}
	op := ""
	if t.Kind == api.TokOp {
		op = t.Text
	}
	switch m.state {
	case aPart:
		return m.takesPart(t, op)
	case anOperator:
		m.op, m.state = op, aConstant
		return slices.Contains([]string{"==", "!=", "<", "<=", ">", ">="}, op)
	case aConstant:
		return m.takesConstant(t, op)
	case aMask:
		return m.takesMask(t)
	case behindConstant:
		if op == "/" && m.masks() && (m.kind == api.TokAddr || m.kind == api.TokNumber) {
			m.state = aMask
			return true
		}
	}
	return m.takesBehind(t, op)
}

func (m *machine) takesPart(t api.Token, op string) bool {
	switch {
	case op == "!" || op == "(":
		m.around = append(m.around, op)
		return true
	case t.Kind == api.TokNumber && (t.Text == "0" || t.Text == "1"):
		m.done()
		return true
	case t.Kind != api.TokName:
		return false
	case slices.Contains([]string{"ip4", "arp", "icmp", "udp", "tcp"}, t.Text):
		m.done()
		return true
	}
	f, ok := field.Find(t.Text)
	m.field, m.state = f, anOperator
	return ok
}

func (m *machine) takesConstant(t api.Token, op string) bool {
	if op == "{" && m.masks() && !m.inSet {
		m.inSet = true
		return true
	}
	m.kind, m.state = t.Kind, behindConstant
	num, ok := t.Num, true
	switch t.Kind {
	case api.TokOp, api.TokEnd:
		return false
	case api.TokMac:
		ok = widths[m.field] == 48
	case api.TokAddr:
		ok = m.field == api.ArpSpa || m.field == api.ArpTpa || m.field == api.IpSrc || m.field == api.IpDst
	case api.TokName, api.TokText:
		i := slices.IndexFunc(m.names, func(n api.Name) bool { return n.Text == t.Text })
		if ok = i >= 0; ok {
			num = m.names[i].Num
		}
	}
	if !ok || num > full(m.field) {
		m.wrong = append(m.wrong, t.At)
	}
	return true
}

func (m *machine) takesMask(t api.Token) bool {
	m.state = behindMask
	switch {
	case t.Kind == api.TokNumber && m.kind == api.TokAddr:
		if t.Num == 0 {
			m.wrong = append(m.wrong, t.At)
		}
		return t.Num <= 32
	case t.Kind == m.kind:
		if t.Num == 0 || t.Num > full(m.field) {
			m.wrong = append(m.wrong, t.At)
		}
		return true
	}
	return false
}

func (m *machine) takesBehind(t api.Token, op string) bool {
	if m.inSet && op == "," {
		m.state = aConstant
		return true
	}
	if m.inSet {
		m.inSet = false
		m.done()
		return op == "}"
	}
	m.done()
	last := len(m.around) - 1
	switch {
	case op == "&&" || op == "||":
		m.state = aPart
		return true
	case op == ")" && last >= 0:
		m.around = m.around[:last]
		m.done()
		return true
	}
	return t.Kind == api.TokEnd && last < 0
}

// fault is what the document's words say of a text: an error and its place.
func fault(s string, names []api.Name) (api.Errno, int) {
	tokens, e, at := lex.Tokens(s)
	if e != api.OK {
		return e, at
	}
	m := &machine{names: names}
	for _, t := range tokens {
		if !m.takes(t) {
			return api.ErrExpr, t.At
		}
	}
	if len(m.wrong) > 0 {
		return api.ErrType, m.wrong[0]
	}
	if len(m.deep) > 0 {
		return api.ErrLong, m.deep[0]
	}
	return api.OK, 0
}

var someNames = []api.Name{{Text: "web", Num: 7}, {Text: "web", Num: 8}, {Text: "p 1", Num: 1}, {Text: "huge", Num: 1 << 40}}

// grower makes texts from the grammar, with the expressions that they are.
type grower struct {
	*rand.Rand
}

// or is a text that stands where an or may stand.
func (g grower) or(depth int) (string, api.Expr) {
	return g.parted(" || ", api.ExprOr, func() (string, api.Expr) {
		return g.parted("&&", api.ExprAnd, func() (string, api.Expr) { return g.part(depth) })
	})
}

func (g grower) parted(op string, kind int, grow func() (string, api.Expr)) (string, api.Expr) {
	text, e := grow()
	n := g.Intn(6) - 3
	if n <= 0 {
		return text, e
	}
	e = api.Expr{Kind: kind, Parts: []api.Expr{e}}
	for range n {
		s, p := grow()
		text += op + s
		e.Parts = append(e.Parts, p)
	}
	return text, e
}

func (g grower) part(depth int) (string, api.Expr) {
	n := g.Intn(10)
	switch {
	case n < 2 && depth > 0:
		s, e := g.part(depth - 1)
		return "! " + s, not(e)
	case n < 4 && depth > 0:
		s, e := g.or(depth - 1)
		return "(" + s + ")", e
	case n < 6:
		words := []string{"1", "0", "ip4", "arp", "icmp", "udp", "tcp"}
		w := g.Intn(len(words))
		return words[w], []api.Expr{yes(), no(), eq(api.EthType, 0x800), eq(api.EthType, 0x806), proto(1), proto(17), proto(6)}[w]
	}
	return g.comparison()
}

func (g grower) comparison() (string, api.Expr) {
	f := 1 + g.Intn(api.Fields)
	op := api.OpEq + g.Intn(6)
	text := field.Name(f) + []string{"==", "!= ", " < ", "<=", "\n>", " >= "}[op-api.OpEq]
	if op > api.OpNe || g.Intn(3) > 0 {
		s, e := g.constant(f, op)
		return text + s, e
	}
	kind := api.ExprOr
	if op == api.OpNe {
		kind = api.ExprAnd
	}
	s, e := g.parted(",", kind, func() (string, api.Expr) { return g.constant(f, op) })
	return text + "{ " + s + "}", e
}

// constant is one that fits, as a number, a name or an address, some with a mask.
func (g grower) constant(f, op int) (string, api.Expr) {
	v := g.Uint64() & full(f)
	switch n := g.Intn(6); {
	case n == 0:
		return "web", is(f, op, 7)
	case n == 1:
		return `"p 1"`, is(f, op, 1)
	case n == 2 && widths[f] == 48:
		return macText(v), is(f, op, v)
	case n <= 3 && (f == api.ArpSpa || f == api.ArpTpa || f == api.IpSrc || f == api.IpDst):
		return g.address(f, op, v)
	case n == 4 && op <= api.OpNe:
		mask := g.Uint64()&full(f) | 1
		return strconv.FormatUint(v, 10) + "/" + strconv.FormatUint(mask, 10), masked(f, op, v&mask, mask)
	case n == 5:
		v &= 3
	}
	return "0x" + strconv.FormatUint(v, 16), is(f, op, v)
}

func (g grower) address(f, op int, v uint64) (string, api.Expr) {
	n := 1 + g.Intn(32)
	mask := uint64(1<<32 - 1<<(32-n))
	switch {
	case op > api.OpNe || g.Intn(3) == 0:
		return addrText(v), is(f, op, v)
	case g.Intn(2) == 0:
		return addrText(v) + "/" + strconv.Itoa(n), masked(f, op, v&mask, mask)
	}
	return addrText(v) + " / " + addrText(mask^1), masked(f, op, v&(mask^1), mask^1)
}

func addrText(v uint64) string {
	var l []string
	for shift := 24; shift >= 0; shift -= 8 {
		l = append(l, strconv.Itoa(int(v>>shift&255)))
	}
	return strings.Join(l, ".")
}

func macText(v uint64) string {
	const digits = "0123456789abcdef"
	var l []string
	for shift := 40; shift >= 0; shift -= 8 {
		l = append(l, string([]byte{digits[v>>(shift+4)&15], digits[v>>shift&15]}))
	}
	return strings.Join(l, ":")
}

// P15.1: texts from the grammar are the expressions that they were made with.
func TestGrown(t *testing.T) {
	g := grower{rand.New(rand.NewSource(15))}
	for range 20000 {
		s, want := g.or(5)
		if len(s) > api.MaxExpr {
			continue
		}
		e, f, at := expr.Parse(s, someNames)
		if !same(e, want) || f != api.OK || at != 0 {
			t.Fatalf("%q: %+v, %d, %d, not %+v", s, e, f, at, want)
		}
		if wantFault, _ := fault(s, someNames); wantFault != api.OK {
			t.Fatalf("%q: the machine refuses it", s)
		}
		if expr.Check(e) != api.OK {
			t.Fatalf("%q: Check refuses it", s)
		}
	}
}

// spoilt is a text whose tokens are changed here and there.
func (g grower) spoilt(s string) string {
	l, _, _ := lex.Tokens(s)
	var words []string
	for i := range l {
		words = append(words, lex.Join(l[i:i+1]))
	}
	others := []string{
		"!", "(", ")", "{", "}", ",", "/", "..", "&&", "||", "==", "!=", "<", ">=", "0", "1", "33", "32", "256", "0xffffffff", "0x1", "web", "nobody", "huge", `"web"`, `"=="`, `"&&"`, `"!"`, `"/"`, `""`,
		"10.0.0.1", "0.0.0.0", "02:00:00:00:00:01", "ip4", "ip.ttl", "ip4.src", "eth.dst", "reg0 ==", "ip4.dst != {", strings.Repeat("!", 31), strings.Repeat("(", 32), strings.Repeat("!(", 9),
	}
	for range 1 + g.Intn(2) {
		at := g.Intn(len(words))
		switch g.Intn(3) {
		case 0:
			words = slices.Delete(words, at, at+1)
		case 1:
			words = slices.Insert(words, at, others[g.Intn(len(others))])
		default:
			words[at] = others[g.Intn(len(others))]
		}
		words = append(words, "")
	}
	return strings.Join(words, " ")
}

// deepened is a text with ! and ( around it.
func (g grower) deepened(s string) string {
	for range 25 + g.Intn(12) {
		if g.Intn(2) == 0 {
			s = "(" + s + ")"
		} else {
			s = "!(" + s + ")"
		}
	}
	return s
}

// P15.1: of all texts the fault is the one that the document's words tell.
func TestFaults(t *testing.T) {
	g := grower{rand.New(rand.NewSource(16))}
	told := map[api.Errno]int{}
	for i := range 40000 {
		s, _ := g.or(3)
		if i%8 == 0 {
			s = g.deepened(s)
		}
		if i%4 > 0 {
			s = g.spoilt(s)
		}
		e, f, at := expr.Parse(s, someNames)
		wantFault, wantAt := fault(s, someNames)
		if f != wantFault || at != wantAt || f != api.OK && !same(e, api.Expr{}) {
			t.Fatalf("%q: %d, %d, not %d, %d", s, f, at, wantFault, wantAt)
		}
		told[f]++
	}
	for _, f := range []api.Errno{api.OK, api.ErrExpr, api.ErrType, api.ErrLong} {
		if told[f] < 300 {
			t.Errorf("%d texts of error %d", told[f], f)
		}
	}
}

// tree is an expression at random, at most so deep.
func (g grower) tree(depth int) api.Expr {
	kind := g.Intn(9)
	if depth == 0 {
		kind = kind % 3
	}
	switch kind {
	case 0:
		return yes()
	case 1:
		return no()
	case 3, 4:
		return not(g.tree(depth - 1))
	case 5, 6, 7, 8:
		e := api.Expr{Kind: api.ExprAnd + kind%2}
		for range 2 + g.Intn(2) {
			e.Parts = append(e.Parts, g.tree(g.Intn(depth)))
		}
		return e
	}
	f := 1 + g.Intn(api.Fields)
	s := states()[g.Intn(7)]
	v, _ := field.Get(s, f)
	op := api.OpEq + g.Intn(6)
	if op <= api.OpNe && g.Intn(2) == 0 {
		mask := g.Uint64()&full(f) | 1<<g.Intn(widths[f])
		return masked(f, op, v&mask, mask)
	}
	return is(f, op, v)
}

// says is whether a State is as an expression says, by the document's words one by one.
func says(e api.Expr, s api.State) bool {
	isSo := func(p api.Expr) bool { return says(p, s) }
	isDenied := func(p api.Expr) bool { return says(not(p), s) }
	switch e.Kind {
	case api.ExprTrue, api.ExprFalse:
		return e.Kind == api.ExprTrue
	case api.ExprIs:
		return field.Has(s, e.Field) && compared(e, s)
	case api.ExprAnd:
		return !slices.ContainsFunc(e.Parts, func(p api.Expr) bool { return !isSo(p) })
	case api.ExprOr:
		return slices.ContainsFunc(e.Parts, isSo)
	}
	switch d := e.Parts[0]; d.Kind {
	case api.ExprTrue, api.ExprFalse:
		return d.Kind == api.ExprFalse
	case api.ExprIs:
		return field.Has(s, d.Field) && !compared(d, s)
	case api.ExprNot:
		return says(d.Parts[0], s)
	case api.ExprAnd:
		return slices.ContainsFunc(d.Parts, isDenied)
	default:
		return !slices.ContainsFunc(d.Parts, func(p api.Expr) bool { return !isDenied(p) })
	}
}

func compared(e api.Expr, s api.State) bool {
	v, _ := field.Get(s, e.Field)
	v &= e.Mask
	return [...]bool{v == e.Value, v != e.Value, v < e.Value, v <= e.Value, v > e.Value, v >= e.Value}[e.Op-api.OpEq]
}

func hasNot(e api.Expr) bool {
	return e.Kind == api.ExprNot || slices.ContainsFunc(e.Parts, hasNot)
}

// hasAll tells whether a State has all fields of an expression.
func hasAll(e api.Expr, s api.State) bool {
	return (e.Kind != api.ExprIs || field.Has(s, e.Field)) && !slices.ContainsFunc(e.Parts, func(p api.Expr) bool { return !hasAll(p, s) })
}

// P15.2 to P15.4: what is printed is read as the same; what holds is what the words say; what is denied holds just
// where the Not of it does, and, where all fields are there, just where it does not.
func TestTrees(t *testing.T) {
	g := grower{rand.New(rand.NewSource(17))}
	for range 15000 {
		e := g.tree(8)
		text := expr.Print(e)
		if expr.Check(e) != api.OK || text == "" {
			t.Fatalf("%+v: Check, %q", e, text)
		}
		again, f, _ := expr.Parse(text, nil)
		if len(text) <= api.MaxExpr && (f != api.OK || !same(again, e) || expr.Print(again) != text) {
			t.Fatalf("%q: again %d, %q", text, f, expr.Print(again))
		}
		denied := expr.Deny(e)
		twice := expr.Deny(denied)
		if hasNot(denied) || expr.Check(denied) != api.OK || !same(denied, expr.Deny(twice)) || !same(denied, expr.Deny(not(not(e)))) || !same(twice, expr.Deny(not(e))) {
			t.Fatalf("%q: denied %q, twice %q", text, expr.Print(denied), expr.Print(twice))
		}
		for _, s := range states() {
			holds, opposite := expr.Holds(e, s), expr.Holds(not(e), s)
			if holds != says(e, s) || opposite != says(not(e), s) || expr.Holds(denied, s) != opposite || expr.Holds(twice, s) != holds {
				t.Fatalf("%q: %v, denied %v", text, holds, opposite)
			}
			if holds && opposite || hasAll(e, s) && !holds && !opposite {
				t.Fatalf("%q: %v and denied %v", text, holds, opposite)
			}
		}
	}
}

// P15.4: expressions that are 8 deep, by what is around what.
func TestDeepestAgain(t *testing.T) {
	inAnd := func(e api.Expr) api.Expr { return and(e, yes()) }
	inOr := func(e api.Expr) api.Expr { return or(no(), e) }
	for _, around := range [][]func(e api.Expr) api.Expr{{not}, {inAnd}, {inOr}, {inAnd, not}, {not, inOr}, {inOr, inAnd, not}} {
		e := eq(api.IpTtl, 5)
		for i := range 8 {
			e = around[i%len(around)](e)
		}
		again, f, _ := expr.Parse(expr.Print(e), nil)
		if f != api.OK || !same(again, e) {
			t.Errorf("%q: %d", expr.Print(e), f)
		}
	}
}

// R1: any text ends without a panic, with the fault that the words tell.
func FuzzParse(f *testing.F) {
	f.Add("ip4.src == 10.0.0.0/8 && !(tp.dst == {80, web} || \"web\" == 1)")
	f.Add("((!1")
	f.Fuzz(func(t *testing.T, s string) {
		e, f, at := expr.Parse(s, someNames)
		wantFault, wantAt := fault(s, someNames)
		if f != wantFault || at != wantAt {
			t.Fatalf("%q: %d, %d, not %d, %d", s, f, at, wantFault, wantAt)
		}
		text := expr.Print(e)
		if again, fault, _ := expr.Parse(text, nil); fault == api.OK && expr.Print(again) != text {
			t.Fatalf("%q: %q", s, text)
		}
	})
}
