package expr

import (
	"skein/api"
	"skein/field"
)

// The bits of an IPv4 address, and those of an Ethernet address.
const (
	addrBits = 32
	macBits  = 48
)

// comparer reads constants behind a field and an operator, as comparisons with them.
type comparer struct {
	*reader
	field int
	op    int
}

// setKind is what comparisons with each constant of a set are together: any of them, or none of them.
func (c comparer) setKind() int {
	if c.op == api.OpNe {
		return api.ExprAnd
	}
	return api.ExprOr
}

// constant reads one, with its mask.
func (c comparer) constant() api.Expr {
	t := c.tokens[0]
	if !isConstant(t.Kind) {
		c.refuse()
		return api.Expr{}
	}
	value, ok := c.valueOf(t)
	if !ok || value&^allBits(c.field) != 0 {
		c.note(api.ErrType, t.At)
	}
	c.skip()
	mask := allBits(c.field)
	if isMasked(c.op) && mayHaveMask(t.Kind) && c.takes("/") {
		mask = c.mask(t.Kind)
	}
	return api.Expr{Kind: api.ExprIs, Field: c.field, Op: c.op, Value: value & mask, Mask: mask}
}

// isConstant tells of the kinds of tokens that may be a constant: all but operators and the end.
func isConstant(kind int) bool {
	return kind != api.TokOp && kind != api.TokEnd
}

func mayHaveMask(kind int) bool {
	return kind == api.TokNumber || kind == api.TokAddr
}

// valueOf is the number that a constant stands for: none, if it may not stand beside the field.
func (c comparer) valueOf(t api.Token) (uint64, bool) {
	switch t.Kind {
	case api.TokMac:
		return t.Num, field.Bits(c.field) == macBits
	case api.TokAddr:
		return t.Num, isAddress(c.field)
	case api.TokName, api.TokText:
		v, ok := c.names[t.Text]
		return v, ok
	}
	return t.Num, true
}

// isAddress tells of the fields that are IPv4 addresses.
func isAddress(f int) bool {
	switch f {
	case api.ArpSpa, api.ArpTpa, api.IpSrc, api.IpDst:
		return true
	}
	return false
}

// mask reads the mask behind a constant of that kind.
func (c comparer) mask(kind int) uint64 {
	t := c.tokens[0]
	mask, ok := maskOf(kind, t)
	if !ok {
		c.refuse()
		return 0
	}
	if mask == 0 || mask&^allBits(c.field) != 0 {
		c.note(api.ErrType, t.At)
	}
	c.skip()
	return mask
}

// maskOf is the mask that a token is behind a constant of a kind: as one of its own kind, or, behind an address,
// as the number of the highest bits.
func maskOf(kind int, t api.Token) (uint64, bool) {
	switch {
	case t.Kind == kind:
		return t.Num, true
	case t.Kind == api.TokNumber && t.Num <= addrBits:
		return 1<<addrBits - 1<<(addrBits-t.Num), true
	}
	return 0, false
}
