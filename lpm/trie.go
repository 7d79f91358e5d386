package lpm

import (
	"math/bits"

	"skein/api"
)

// node is a prefix that is there, or one at which the ways to two others part. (The root may be neither.) Bits
// that all of the prefixes below share are gone over at once: there are fewer than two nodes for each prefix.
type node struct {
	route api.Route
	there bool
	kids  [2]*node // longer prefixes, by their first bit behind this one
}

// has tells whether the node's prefix has an address.
func (n *node) has(ip uint32) bool {
	return (ip^n.route.Prefix)&Mask(n.route.Plen) == 0
}

// is tells whether the last node on the way to a prefix of that length is this prefix itself.
func (n *node) is(plen int) bool {
	return n.there && n.route.Plen == plen
}

// toward is where the way to an address goes on. Behind all bits of a prefix there is none: kids[0] is nil.
func (n *node) toward(ip uint32) **node {
	return &n.kids[ip<<n.route.Plen>>(addrBits-1)]
}

// path is the way to a prefix: the nodes within whose prefixes it lies, from the root on.
func (t *Table) path(prefix uint32, plen int) []*node {
	path := make([]*node, 0, addrBits+1)
	n := t.root
down:
	path = append(path, n)
	n = *n.toward(prefix)
	if n != nil && n.route.Plen <= plen && n.has(prefix) {
		goto down
	}
	return path
}

// grow puts a node of a longer prefix, which there is none of yet, below the last one on the way to it.
func (n *node) grow(prefix uint32, plen int) *node {
	made := nodeOf(prefix, plen)
	way := n.toward(prefix)
	other := *way
	*way = made
	if other == nil {
		return made
	}
	shared := min(plen, bits.LeadingZeros32(prefix^other.route.Prefix))
	if shared < plen {
		fork := nodeOf(prefix&Mask(shared), shared)
		*fork.toward(prefix) = made
		*way = fork
	}
	*(*way).toward(other.route.Prefix) = other
	return made
}

func nodeOf(prefix uint32, plen int) *node {
	return &node{route: api.Route{Prefix: prefix, Plen: plen}}
}

// tidy takes the nodes at a way's end out that nobody needs any more, but the root.
func tidy(path []*node) {
	last := len(path) - 1
up:
	if last > 0 && !path[last].isNeeded() {
		*path[last-1].toward(path[last].route.Prefix) = path[last].onlyKid()
		last--
		goto up
	}
}

func (n *node) isNeeded() bool {
	return n.there || n.kids[0] != nil && n.kids[1] != nil
}

// onlyKid is the kid of a node that has not two: nil, if it has none.
func (n *node) onlyKid() *node {
	if n.kids[0] != nil {
		return n.kids[0]
	}
	return n.kids[1]
}

// routes is the prefixes that are there. One stands ahead of those within it, and these by their next bit: that is
// the order of addresses, and of Plens.
func (t *Table) routes() []api.Route {
	if !t.isMade() {
		return nil
	}
	var out []api.Route
	todo := []*node{t.root}
next:
	if len(todo) == 0 {
		return out
	}
	n := todo[len(todo)-1]
	todo = todo[:len(todo)-1]
	if n == nil {
		goto next
	}
	if n.there {
		out = append(out, n.route)
	}
	todo = append(todo, n.kids[1], n.kids[0])
	goto next
}
