package expr

import (
	"slices"

	"skein/api"
)

// list is which one a list of parts is: two that begin at one place and are of one length are the same.
type list struct {
	first *api.Expr
	size  int
}

// opened is a list that is being copied: those of the copy's parts whose own parts are still the list's.
type opened struct {
	list list
	rest []api.Expr
}

// copier copies an expression whole, however deep it is: the lists around a part are kept here, not in calls
// within calls. One that lies within itself has a copy that does so, too.
type copier struct {
	around []opened
	copies map[list][]api.Expr // of the lists around
}

// copyOf is an expression in memory of its own, whether it may be or not.
func copyOf(e api.Expr) api.Expr {
	whole := []api.Expr{e}
	c := copier{around: []opened{{rest: whole}}, copies: map[list][]api.Expr{}}
next:
	last := &c.around[len(c.around)-1]
	if len(last.rest) > 0 {
		part := &last.rest[0]
		last.rest = last.rest[1:]
		part.Parts = c.open(part.Parts)
		goto next
	}
	c.close(last.list)
	if len(c.around) > 0 {
		goto next
	}
	return whole[0]
}

// open is the copy of a list, whose parts are gone over next, unless that is being done already.
func (c *copier) open(l []api.Expr) []api.Expr {
	if len(l) == 0 {
		return nil
	}
	which := list{&l[0], len(l)}
	if made, ok := c.copies[which]; ok {
		return made
	}
	made := slices.Clone(l)
	c.copies[which] = made
	c.around = append(c.around, opened{which, made})
	return made
}

// close leaves the innermost list. Where it lies elsewhere once more, that is copied anew: answers share nothing.
func (c *copier) close(which list) {
	delete(c.copies, which)
	c.around = c.around[:len(c.around)-1]
}
