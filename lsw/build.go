package lsw

import (
	"cmp"
	"slices"

	"skein/api"
	"skein/field"
	"skein/match"
)

// builder puts flows of one datapath together.
type builder struct {
	datapath int
	entries  []entry
}

// entry is a flow, and the text by which it has its place.
type entry struct {
	api.Flow
	text string
}

// putter lays a flow into a table.
type putter func(priority int, terms []api.Term, acts ...api.Act)

// table is what lays flows into a table.
func (b *builder) table(n int) putter {
	return func(priority int, terms []api.Term, acts ...api.Act) {
		whole, ok := b.whole(terms)
		if !ok {
			return
		}
		f := api.Flow{Table: n, Priority: priority, Terms: whole, Acts: acts}
		b.entries = append(b.entries, entry{f, match.Text(whole)})
	}
}

// whole is terms in form, with the datapath and what their fields need: false, if no frame could satisfy them all.
func (b *builder) whole(terms []api.Term) ([]api.Term, bool) {
	both, canBe, _ := match.And(inForm(terms), when(is(api.Datapath, b.datapath)))
	l, ok, _ := match.Whole(both)
	return l, ok && canBe
}

// inForm is terms of unlike fields, which rise.
func inForm(terms []api.Term) []api.Term {
	byField := func(a, b api.Term) int { return cmp.Compare(a.Field, b.Field) }
	return slices.SortedFunc(slices.Values(terms), byField)
}

// flows is what was put together, in the order that pipelines have them.
func (b *builder) flows() []api.Flow {
	slices.SortFunc(b.entries, func(x, y entry) int {
		return cmp.Or(
			cmp.Compare(x.Table, y.Table),
			cmp.Compare(y.Priority, x.Priority),
			cmp.Compare(x.text, y.text),
		)
	})
	var out []api.Flow
	for _, e := range b.entries {
		out = append(out, e.Flow)
	}
	return out
}

// integer is what a field's value may come as.
type integer interface {
	int | uint32 | uint64
}

// when is terms, of as many fields as one likes.
func when(l ...api.Term) []api.Term {
	return l
}

// is wants all bits of a field.
func is[N integer](f int, value N) api.Term {
	return under(f, uint64(value), allBits(f))
}

// has wants some bits of a field to be 1.
func has(f int, bits uint64) api.Term {
	return under(f, bits, bits)
}

func under(f int, value, mask uint64) api.Term {
	return api.Term{Field: f, Value: value, Mask: mask}
}

func allBits(f int) uint64 {
	return 1<<field.Bits(f) - 1
}

// set sets all bits of a field.
func set[N integer](f int, value N) api.Act {
	return api.Act{Kind: api.ActSet, Field: f, Value: uint64(value), Mask: allBits(f)}
}

// mark sets some bits of a field to 1.
func mark(f int, bits uint64) api.Act {
	return api.Act{Kind: api.ActSet, Field: f, Value: bits, Mask: bits}
}

func goTo(table int) api.Act {
	return api.Act{Kind: api.ActGo, Table: table}
}

func clone(l ...api.Act) api.Act {
	return api.Act{Kind: api.ActClone, Acts: l}
}

// turnBack has a frame go out where it came in.
func turnBack() api.Act {
	return api.Act{Kind: api.ActMove, From: api.InPort, Field: api.OutPort}
}
