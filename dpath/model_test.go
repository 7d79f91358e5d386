package dpath_test

import (
	"math/rand"
	"slices"
	"testing"

	"skein/act"
	"skein/api"
	"skein/ct"
	"skein/dpath"
	"skein/match"
)

// model is a run as the document's words have it, over a list of flows that is gone through. done counts the
// actions that were done.
type model struct {
	flows      []api.Flow
	conns      *ct.Table
	sent       []api.Sent
	goes, done int
	isOver     bool
}

// enter has a State be in a table.
func (m *model) enter(table int, s api.State) {
	var found *api.Flow
	for i, f := range m.flows {
		if f.Table != table || !match.Satisfies(s, f.Terms) {
			continue
		}
		if found == nil || f.Priority > found.Priority || f.Priority == found.Priority && match.Text(f.Terms) < match.Text(found.Terms) {
			found = &m.flows[i]
		}
	}
	if found != nil {
		m.list(found.Acts, s)
	}
}

// list does a list of actions.
func (m *model) list(l []api.Act, s api.State) {
	for _, a := range l {
		e := api.OK
		switch {
		case m.isOver:
			return
		case a.Kind == api.ActGo && m.goes == 4096:
			m.isOver = true
			return
		case a.Kind == api.ActGo:
			m.goes++
			m.done++
			m.enter(a.Table, s)
			return
		case a.Kind == api.ActClone:
			m.list(a.Acts, s)
		case a.Kind == api.ActOutput || a.Kind == api.ActTunnel:
			m.sent = append(m.sent, api.Sent{Tunnel: a.Kind == api.ActTunnel, Port: a.Port, State: s})
		case act.Pure(a.Kind):
			s, e = act.Step(s, a)
		case a.Port > 1:
			return
		default:
			s, e = m.track(a, s, []int{s.In, s.Out}[a.Port])
		}
		m.done++
		if e != api.OK {
			return
		}
	}
}

// track does an action that asks for connections.
func (m *model) track(a api.Act, s api.State, zone int) (api.State, api.Errno) {
	if a.Kind == api.ActCtCommit {
		e := m.conns.Commit(zone, s)
		if e == api.ErrPrereq {
			e = api.OK
		}
		return s, e
	}
	x, e := m.conns.Look(zone, s)
	if e != api.ErrPrereq {
		return x, e
	}
	s.Ct, s.Orig = 0, api.Tuple{}
	return s, api.OK
}

// randomTerms is a match that some of the States satisfy.
func randomTerms(r *rand.Rand) []api.Term {
	pool := terms(
		term(api.EthType, api.TypeIp, all16), term(api.IpDst, uint64(1+r.Intn(2)), all32), term(api.IpProto, api.ProtoUdp, 255),
		term(api.IpTtl, 0, 1), term(api.CtState, uint64(r.Intn(2)*2), 2), term(api.InPort, uint64(r.Intn(3)), all16),
		term(api.OutPort, uint64(r.Intn(2)), 1), term(api.Reg0, uint64(r.Intn(4)), 3),
	)
	return slices.DeleteFunc(pool, func(api.Term) bool { return r.Intn(4) != 0 })
}

// randomActs is actions, some of which go on in tables further down, and a few back.
func randomActs(r *rand.Rand, table, depth int) []api.Act {
	var l []api.Act
	for range r.Intn(6) {
		switch r.Intn(14) {
		case 0, 1:
			l = append(l, output(r.Intn(4)))
		case 2:
			l = append(l, tunnel(r.Intn(4)))
		case 3, 4:
			if depth < 4 {
				l = append(l, clone(randomActs(r, table, depth+1)...))
			}
		case 5:
			l = append(l, hop())
		case 6:
			l = append(l, set(api.Reg0, uint64(r.Intn(4)), 3))
		case 7, 8:
			l = append(l, look(r.Intn(20)%9%3))
		case 9, 10:
			l = append(l, commit(r.Intn(20)%9%3))
		case 11:
			l = append(l, pick(api.Way{Ip: 1, Port: 1}, api.Way{Ip: 2}))
		case 12:
			l = append(l, api.Act{Kind: api.ActMove, From: api.InPort, Field: api.OutPort})
		default:
			l = append(l, api.Act{Kind: api.ActEcho})
		}
	}
	if r.Intn(4) > 0 {
		l = append(l, goTo(min(table+1, 5)))
	} else if r.Intn(4) == 0 {
		l = append(l, goTo(r.Intn(table+1)))
	}
	return l
}

// randomFlows is flows that may be a Program.
func randomFlows(r *rand.Rand) []api.Flow {
	var l []api.Flow
	for range r.Intn(40) {
		table := r.Intn(5)
		f := flow(table, r.Intn(3), randomTerms(r), randomActs(r, table, 0)...)
		isThere := func(g api.Flow) bool {
			return f.Table == g.Table && f.Priority == g.Priority && slices.Equal(f.Terms, g.Terms)
		}
		if !slices.ContainsFunc(l, isThere) {
			l = append(l, f)
		}
	}
	return l
}

// randomState is one of few States, so that connections meet again.
func randomState(r *rand.Rand) api.State {
	s := udp()
	switch r.Intn(6) {
	case 0:
		s = arp()
	case 1:
		s = ipv4(api.ProtoIcmp, api.L4{Kind: api.KindIcmp, Type: 8, Rest: 5 << 16})
	case 2:
		s = back()
	case 3:
		s.P.Ip.Frag = r.Intn(2) << 13
	}
	s.P.Ip.Ttl = r.Intn(4)
	s.P.L4.Sport = r.Intn(3)
	s.In, s.Out, s.Regs[0] = r.Intn(3), r.Intn(3), uint32(r.Intn(4))
	if !s.P.IsIp {
		s.P.Ip, s.P.L4 = api.Ip{}, api.L4{}
	}
	return s
}

// P13.3, P13.4, P13.5: runs are as the document's words have them.
func TestModel(t *testing.T) {
	r := rand.New(rand.NewSource(1313))
	sent, goes, ended := 0, 0, 0
	for range 150 {
		flows := randomFlows(r)
		shuffled := slices.Clone(flows)
		r.Shuffle(len(shuffled), func(i, k int) { shuffled[i], shuffled[k] = shuffled[k], shuffled[i] })
		p := program(t, shuffled...)
		x := table(t)
		for range 12 {
			s, from := randomState(r), r.Intn(3)
			m := &model{flows: flows, conns: x.Fork()}
			m.enter(from, s)
			l, n, e := p.Run(x, from, s)
			if !slices.Equal(l, m.sent) || n != m.goes || (e == api.ErrBudget) != m.isOver || e != api.OK && e != api.ErrBudget {
				t.Fatalf("%+v\n%+v: %+v, %d, %d, not %+v, %d, %v", p.Flows(), s, l, n, e, m.sent, m.goes, m.isOver)
			}
			if len(l) > m.done {
				t.Errorf("%d sent by %d actions", len(l), m.done)
			}
			sameConns(t, x, m.conns)
			x.Tick(r.Intn(20))
			sent, goes = sent+min(len(l), 1), goes+min(n, 1)
			if m.isOver {
				ended++
			}
		}
		has(t, "behind runs", p, program(t, flows...).Flows()...)
	}
	if sent < 200 || goes < 200 || ended < 10 {
		t.Errorf("too little happens: %d, %d, %d", sent, goes, ended)
	}
}

// R1: Run ends, whatever State comes in.
func TestRunAnyState(t *testing.T) {
	r := rand.New(rand.NewSource(131))
	for range 200 {
		p := program(t, randomFlows(r)...)
		s := randomState(r)
		s.In, s.Out, s.Ct, s.Dp = r.Int()-r.Int(), r.Int()-r.Int(), r.Int()-r.Int(), r.Int()-r.Int()
		s.P.Ip.Ttl, s.P.Ip.Proto, s.P.L4.Kind, s.P.IsIp = r.Int()-r.Int(), r.Int()-r.Int(), r.Intn(6)-1, r.Intn(2) == 0
		if _, n, e := p.Run(table(t), r.Intn(5), s); n < 0 || n > 4096 || e != api.OK && e != api.ErrBudget {
			t.Errorf("%d, %d", n, e)
		}
	}
	var none *dpath.Program
	if l, n, e := none.Run(nil, -1, api.State{}); len(l) != 0 || n != 0 || e != api.ErrClosed {
		t.Errorf("%+v, %d, %d", l, n, e)
	}
}
