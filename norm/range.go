package norm

import (
	"skein/api"
	"skein/field"
)

// Range is the least list of matches of a field's highest bits for the numbers from one to another.
func Range(f int, from, to uint64) [][]api.Term {
	var out [][]api.Term
	all := allBits(f)
	if field.Bits(f) == 0 || to < from || to > all {
		return nil
	}
next:
	size := block(from, to, all/2+1)
	out = append(out, []api.Term{{Field: f, Value: from, Mask: all &^ (size - 1)}})
	if to-from >= size {
		from += size
		goto next
	}
	return out
}

// block is how many numbers of a range, from its first one on, a match of the highest bits takes in, at the most:
// a power of two that divides the first one. It is bounded, for a match wants one bit at the least.
func block(from, to, most uint64) uint64 {
	size := most
halve:
	if from%size != 0 || to-from < size-1 {
		size /= 2
		goto halve
	}
	return size
}

// matchesOfComparison is the matches of a field for the numbers of which a comparison is so.
func matchesOfComparison(e api.Expr) [][]api.Term {
	all := allBits(e.Field)
	switch e.Op {
	case api.OpEq:
		return [][]api.Term{{{Field: e.Field, Value: e.Value, Mask: e.Mask}}}
	case api.OpNe:
		return others(e)
	case api.OpLe:
		return Range(e.Field, 0, e.Value)
	case api.OpGe:
		return Range(e.Field, e.Value, all)
	case api.OpLt:
		if e.Value > 0 {
			return Range(e.Field, 0, e.Value-1)
		}
	case api.OpGt:
		if e.Value < all {
			return Range(e.Field, e.Value+1, all)
		}
	}
	return nil
}

// others is a match for each bit of the mask, which wants it as the value has it not.
func others(e api.Expr) [][]api.Term {
	var out [][]api.Term
	rest := e.Mask
next:
	bit := rest & -rest
	out = append(out, []api.Term{{Field: e.Field, Value: bit &^ e.Value, Mask: bit}})
	rest &^= bit
	if rest != 0 {
		goto next
	}
	return out
}
