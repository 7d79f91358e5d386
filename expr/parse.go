package expr

import (
	"skein/api"
	"skein/field"
	"skein/lex"
)

// Parse is the expression of a text, or the place of a fault.
func Parse(s string, names []api.Name) (api.Expr, api.Errno, int) {
	tokens, fault, at := lex.Tokens(s)
	if fault != api.OK {
		return api.Expr{}, fault, at
	}
	r := &reader{tokens: tokens, names: numbersOf(names), faults: map[api.Errno]int{}}
	e := r.or()
	if r.tokens[0].Kind != api.TokEnd {
		r.refuse()
	}
	// Wherever they stand in the text: what is named first is told first.
	for _, kind := range [...]api.Errno{api.ErrExpr, api.ErrType, api.ErrLong} {
		if place, ok := r.faults[kind]; ok {
			return api.Expr{}, kind, place
		}
	}
	return e, api.OK, 0
}

// numbersOf is what names stand for: of those with one Text the first counts.
func numbersOf(names []api.Name) map[string]uint64 {
	numbers := map[string]uint64{}
	for _, n := range names {
		if _, ok := numbers[n.Text]; !ok {
			numbers[n.Text] = n.Num
		}
	}
	return numbers
}

// reader reads tokens. Behind the first token that may not stand there it reads no more; other faults are noted,
// and it goes on.
type reader struct {
	tokens []api.Token // those that are not read, TokEnd the last one
	names  map[string]uint64
	depth  int               // within how many ! and ( the next token lies
	faults map[api.Errno]int // the first place of each
}

func (r *reader) note(fault api.Errno, at int) {
	if _, ok := r.faults[fault]; !ok {
		r.faults[fault] = at
	}
}

// refuse notes that the next token may not stand there. At the end no reader finds anything that it could read:
// all of them come back.
func (r *reader) refuse() {
	r.note(api.ErrExpr, r.tokens[0].At)
	r.tokens = r.tokens[len(r.tokens)-1:]
}

func (r *reader) skip() {
	r.tokens = r.tokens[1:]
}

// takes reads an operator, if it is the next token.
func (r *reader) takes(op string) bool {
	if t := r.tokens[0]; t.Kind != api.TokOp || t.Text != op {
		return false
	}
	r.skip()
	return true
}

func (r *reader) wants(op string) {
	if !r.takes(op) {
		r.refuse()
	}
}

func (r *reader) or() api.Expr {
	return r.parted("||", api.ExprOr, r.and)
}

func (r *reader) and() api.Expr {
	return r.parted("&&", api.ExprAnd, r.part)
}

// parted reads parts with an operator between them: one alone is what it is, more are of that kind.
func (r *reader) parted(op string, kind int, read func() api.Expr) api.Expr {
	parts := []api.Expr{read()}
next:
	if r.takes(op) {
		parts = append(parts, read())
		goto next
	}
	if len(parts) == 1 {
		return parts[0]
	}
	return join(kind, parts...)
}

func join(kind int, parts ...api.Expr) api.Expr {
	return api.Expr{Kind: kind, Parts: parts}
}

func (r *reader) part() api.Expr {
	switch {
	case r.takes("!"):
		return join(api.ExprNot, r.within(r.part))
	case r.takes("("):
		e := r.within(r.or)
		r.wants(")")
		return e
	}
	if e, ok := wordOf(r.tokens[0]); ok {
		r.skip()
		return e
	}
	return r.comparison()
}

// within reads what lies within one ! or ( more.
func (r *reader) within(read func() api.Expr) api.Expr {
	r.depth++
	defer r.leave()
	if r.depth > api.MaxDepth {
		r.note(api.ErrLong, r.tokens[0].At)
	}
	return read()
}

func (r *reader) leave() {
	r.depth--
}

// wordOf is the expression that a token is by itself.
func wordOf(t api.Token) (api.Expr, bool) {
	if t.Kind != api.TokName && t.Kind != api.TokNumber {
		return api.Expr{}, false
	}
	switch t.Text {
	case allText:
		return join(api.ExprTrue), true
	case nothingText:
		return join(api.ExprFalse), true
	case "ip4":
		return equal(api.EthType, api.TypeIp), true
	case "arp":
		return equal(api.EthType, api.TypeArp), true
	case "icmp":
		return protocol(api.ProtoIcmp), true
	case "udp":
		return protocol(api.ProtoUdp), true
	case "tcp":
		return protocol(api.ProtoTcp), true
	}
	return api.Expr{}, false
}

func protocol(number uint64) api.Expr {
	return join(api.ExprAnd, equal(api.EthType, api.TypeIp), equal(api.IpProto, number))
}

func equal(f int, v uint64) api.Expr {
	return api.Expr{Kind: api.ExprIs, Field: f, Op: api.OpEq, Value: v, Mask: allBits(f)}
}

func (r *reader) comparison() api.Expr {
	t := r.tokens[0]
	f, ok := field.Find(t.Text)
	if !ok || t.Kind != api.TokName {
		r.refuse()
		return api.Expr{}
	}
	r.skip()
	op := operatorOf(r.tokens[0])
	if op == 0 {
		r.refuse()
		return api.Expr{}
	}
	r.skip()
	c := comparer{r, f, op}
	if isMasked(op) && r.takes("{") {
		e := r.parted(",", c.setKind(), c.constant)
		r.wants("}")
		return e
	}
	return c.constant()
}
