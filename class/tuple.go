package class

import (
	"container/heap"
	"math/bits"
	"slices"

	"skein/api"
	"skein/field"
	"skein/octets"
)

// tuple is the rules whose terms have the same fields and masks. Those that a State satisfies all have the
// same values: the State's own bits under the masks.
type tuple struct {
	text   string // the shape's
	shape  []api.Term
	marks  uint64
	queues map[string]*queue // by the values of the terms
}

// shapeOf is terms without their values.
func shapeOf(l []api.Term) []api.Term {
	shape := slices.Clone(l)
	for i := range shape {
		shape[i].Value = 0
	}
	return shape
}

// marksOf folds masks into one number: where a list's masks all lie within those of another one, so do its
// marks. Most tuples that have nothing to do with a rule are told by them at one glance.
func marksOf(l []api.Term) uint64 {
	var marks uint64
	for _, t := range l {
		marks |= bits.RotateLeft64(t.Mask, 7*t.Field)
	}
	return marks
}

// first is the first entry in the order all of whose terms are as the source tells; nil, if there is none.
func (t *tuple) first(tell source) *entry {
	var room [valueSize * api.Fields]byte
	key := room[:0]
	for _, m := range t.shape {
		v, ok := tell(m.Field, m.Mask)
		if !ok {
			return nil
		}
		key = appendValue(key, v)
	}
	q := t.queues[string(key)]
	if q == nil {
		return nil
	}
	return q.first()
}

func (t *tuple) add(e *entry) {
	key := valuesOf(e.rule.Terms)
	q := t.queues[key]
	if q == nil {
		q = &queue{}
		t.queues[key] = q
	}
	heap.Push(q, e)
}

func (t *tuple) remove(e *entry) {
	key := valuesOf(e.rule.Terms)
	q := t.queues[key]
	heap.Remove(q, e.at)
	if q.Len() == 0 {
		delete(t.queues, key)
	}
}

// valuesOf is the key of terms among those of one shape.
func valuesOf(l []api.Term) string {
	var key []byte
	for _, t := range l {
		key = appendValue(key, t.Value)
	}
	return string(key)
}

// valueSize is how many bytes of a key each value has, so that unlike lists of them have unlike keys.
const valueSize = 8

func appendValue(key []byte, v uint64) []byte {
	return octets.Append(key, v, valueSize)
}

// source tells a field's bits under a mask; false, if it does not know all of them.
type source func(f int, mask uint64) (uint64, bool)

// reading is what a State says of a field, once that has been asked for.
type reading struct {
	done  bool
	there bool
	value uint64
}

// bitsOfState is what a State says. Each field is read once, however many tuples ask for it.
func bitsOfState(s api.State) source {
	var readings [api.Fields + 1]reading
	return func(f int, mask uint64) (uint64, bool) {
		r := &readings[f]
		if !r.done {
			v, fault := field.Get(s, f)
			*r = reading{done: true, there: fault == api.OK, value: v}
		}
		return r.value & mask, r.there
	}
}

// bitsOfTerms is what terms want. Where they want nothing of a field, no bit of it is under a mask.
func bitsOfTerms(l []api.Term) source {
	var terms [api.Fields + 1]api.Term
	for _, t := range l {
		terms[t.Field] = t
	}
	return func(f int, mask uint64) (uint64, bool) {
		return terms[f].Value & mask, mask&^terms[f].Mask == 0
	}
}
