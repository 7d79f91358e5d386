package ct

import "skein/api"

// zone is the connections of one number, found by the tuples of their packets. Of no two of them is a tuple the
// same.
type zone struct {
	byOrig  map[api.Tuple]*entry
	byReply map[api.Tuple]*entry
}

func newZone() zone {
	return zone{byOrig: map[api.Tuple]*entry{}, byReply: map[api.Tuple]*entry{}}
}

// find is the connection that a tuple is of, and whether it is so backward; nil, if there is none.
func (z zone) find(tuple api.Tuple) (*entry, bool) {
	if e := z.byOrig[tuple]; e != nil {
		return e, false
	}
	e := z.byReply[tuple]
	return e, e != nil
}

// knows tells whether a connection has that tuple.
func (z zone) knows(tuple api.Tuple) bool {
	e, _ := z.find(tuple)
	return e != nil
}

func (z zone) isEmpty() bool {
	return len(z.byOrig) == 0
}

func (z zone) add(e *entry) {
	z.byOrig[e.conn.Orig] = e
	z.byReply[e.conn.Reply] = e
}

func (z zone) remove(e *entry) {
	delete(z.byOrig, e.conn.Orig)
	delete(z.byReply, e.conn.Reply)
}
