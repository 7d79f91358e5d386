// Package flow puts flows together: terms, actions, and lists of them in their order. It is no layer, but what those
// share that make flows.
package flow

import (
	"cmp"
	"slices"

	"skein/api"
	"skein/field"
	"skein/match"
)

// Builder puts flows of one datapath together.
type Builder struct {
	datapath int
	flows    []api.Flow
}

// Of is a Builder for the datapath of that key.
func Of(datapath int) Builder {
	return Builder{datapath: datapath}
}

// Putter lays a flow into a table.
type Putter func(priority int, terms []api.Term, acts ...api.Act)

// Table is what lays flows into a table.
func (b *Builder) Table(n int) Putter {
	return func(priority int, terms []api.Term, acts ...api.Act) {
		if whole, ok := b.whole(terms); ok {
			b.flows = append(b.flows, api.Flow{Table: n, Priority: priority, Terms: whole, Acts: acts})
		}
	}
}

// Otherwise is the priority of flows that take all that the others leave.
const Otherwise = 0

// whole is terms in form, with the datapath and what their fields need: false, if no frame could satisfy them all.
func (b *Builder) whole(terms []api.Term) ([]api.Term, bool) {
	both, canBe, _ := match.And(inForm(terms), When(Is(api.Datapath, b.datapath)))
	l, ok, _ := match.Whole(both)
	return l, ok && canBe
}

// inForm is terms of unlike fields, which rise.
func inForm(terms []api.Term) []api.Term {
	byField := func(a, b api.Term) int { return cmp.Compare(a.Field, b.Field) }
	return slices.SortedFunc(slices.Values(terms), byField)
}

// Flows is what was put together, in the order that pipelines have them.
func (b *Builder) Flows() []api.Flow {
	return Sorted(b.flows)
}

// entry is a flow, and the text by which it has its place.
type entry struct {
	api.Flow
	text string
}

// Sorted is flows in the order that pipelines have them. They keep their lists of terms and actions.
func Sorted(l []api.Flow) []api.Flow {
	entries := make([]entry, len(l))
	for i, f := range l {
		entries[i] = entry{f, match.Text(f.Terms)}
	}
	slices.SortFunc(entries, func(x, y entry) int {
		return cmp.Or(
			cmp.Compare(x.Table, y.Table),
			cmp.Compare(y.Priority, x.Priority),
			cmp.Compare(x.text, y.text),
		)
	})
	var out []api.Flow
	for _, e := range entries {
		out = append(out, e.Flow)
	}
	return out
}

// Integer is what a field's value may come as.
type Integer interface {
	int | uint32 | uint64
}

// When is terms, of as many fields as one likes.
func When(l ...api.Term) []api.Term {
	return l
}

// Is wants all bits of a field.
func Is[N Integer](f int, value N) api.Term {
	return Under(f, uint64(value), allBits(f))
}

// Has wants some bits of a field to be 1.
func Has(f int, bits uint64) api.Term {
	return Under(f, bits, bits)
}

// Under wants the bits under a mask.
func Under(f int, value, mask uint64) api.Term {
	return api.Term{Field: f, Value: value, Mask: mask}
}

func allBits(f int) uint64 {
	return 1<<field.Bits(f) - 1
}

// Set sets all bits of a field.
func Set[N Integer](f int, value N) api.Act {
	return api.Act{Kind: api.ActSet, Field: f, Value: uint64(value), Mask: allBits(f)}
}

// Mark sets some bits of a field to 1.
func Mark(f int, bits uint64) api.Act {
	return api.Act{Kind: api.ActSet, Field: f, Value: bits, Mask: bits}
}

// Move has a field get what another one has.
func Move(from, to int) api.Act {
	return api.Act{Kind: api.ActMove, From: from, Field: to}
}

// GoTo has a packet go on in another table.
func GoTo(table int) api.Act {
	return api.Act{Kind: api.ActGo, Table: table}
}

// Enter has a packet come into another datapath, which knows nothing of it yet but how many routers it passed.
func Enter(datapath, port, table int) []api.Act {
	return []api.Act{
		Set(api.Datapath, datapath), Set(api.InPort, port), Set(api.OutPort, 0), Set(api.CtState, 0),
		Set(api.Reg0, 0), Set(api.Reg1, 0), Set(api.Reg3, 0), GoTo(table),
	}
}
