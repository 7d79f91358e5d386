package dpath

import (
	"skein/act"
	"skein/api"
	"skein/ct"
)

// The zones in which connections are looked up and committed, by an action's Port.
const (
	zoneIn  = 0
	zoneOut = 1
)

// run is a State on its way through a Program, with its copies.
type run struct {
	program *Program
	conns   *ct.Table
	sent    []api.Sent
	goes    int
}

// Run has a State go through a Program from a table on: what was sent, and how many goes were done.
func (p *Program) Run(t *ct.Table, table int, s api.State) ([]api.Sent, int, api.Errno) {
	if !p.isMade() {
		return nil, 0, api.ErrClosed
	}
	if t == nil || !isTable(table) {
		return nil, 0, api.ErrArg
	}
	r := &run{program: p, conns: t}
	fault := api.OK
	if !r.do(p.find(table, s), s) {
		fault = api.ErrBudget
	}
	return r.sent, r.goes, fault
}

// find is the actions of the flow that a State finds in a table: where it finds none, there is nothing to do.
func (p *Program) find(table int, s api.State) []api.Act {
	r, ok := p.tables[table].Find(s)
	if !ok {
		return nil
	}
	return p.order[r.Id-1].flow.Acts
}

// do does a list of actions to a State, with all that they lead to in other tables. False: the budget is used
// up, and the whole run is over.
func (r *run) do(l []api.Act, s api.State) bool {
	var a api.Act
	goesOn := true
next:
	if len(l) == 0 || !goesOn {
		return true
	}
	a, l = l[0], l[1:]
	switch a.Kind {
	case api.ActGo:
		if r.goes == api.MaxBudget {
			return false
		}
		r.goes++
		l = r.program.find(a.Table, s)
		goto next
	case api.ActClone:
		if !r.do(a.Acts, s) {
			return false
		}
		goto next
	case api.ActOutput, api.ActTunnel:
		r.sent = append(r.sent, api.Sent{Tunnel: a.Kind == api.ActTunnel, Port: a.Port, State: s})
		goto next
	}
	s, goesOn = r.change(s, a)
	goto next
}

// change is a State behind an action of the other kinds. False: the list that it is of is over.
func (r *run) change(s api.State, a api.Act) (api.State, bool) {
	switch a.Kind {
	case api.ActCtLook:
		return r.look(s, a.Port)
	case api.ActCtCommit:
		return s, r.commit(s, a.Port)
	}
	s, fault := act.Step(s, a)
	return s, fault == api.OK
}

// look is a State with what its zone knows of it.
func (r *run) look(s api.State, port int) (api.State, bool) {
	zone, ok := zoneOf(s, port)
	if !ok {
		return api.State{}, false
	}
	looked, fault := r.conns.Look(zone, s)
	if fault == api.ErrPrereq {
		s.Ct, s.Orig = 0, api.Tuple{}
		return s, true
	}
	return looked, fault == api.OK
}

// commit has a State's zone remember its connection. What is of no connection goes on all the same.
func (r *run) commit(s api.State, port int) bool {
	zone, ok := zoneOf(s, port)
	if !ok {
		return false
	}
	fault := r.conns.Commit(zone, s)
	return fault == api.OK || fault == api.ErrPrereq
}

// zoneOf is the zone that an action's Port means.
func zoneOf(s api.State, port int) (int, bool) {
	switch port {
	case zoneIn:
		return s.In, true
	case zoneOut:
		return s.Out, true
	}
	return 0, false
}
