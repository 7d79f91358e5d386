package dpath_test

import (
	"math"
	"math/rand"
	"slices"
	"testing"

	"skein/act"
	"skein/api"
	"skein/dpath"
)

const all16, all32, all48 = 1<<16 - 1, 1<<32 - 1, 1<<48 - 1

func term(f int, value, mask uint64) api.Term {
	return api.Term{Field: f, Value: value, Mask: mask}
}

func terms(l ...api.Term) []api.Term { return l }

func acts(l ...api.Act) []api.Act { return l }

func set(f int, value, mask uint64) api.Act {
	return api.Act{Kind: api.ActSet, Field: f, Value: value, Mask: mask}
}

func hop() api.Act                 { return api.Act{Kind: api.ActHop} }
func goTo(table int) api.Act       { return api.Act{Kind: api.ActGo, Table: table} }
func clone(l ...api.Act) api.Act   { return api.Act{Kind: api.ActClone, Acts: l} }
func output(port int) api.Act      { return api.Act{Kind: api.ActOutput, Port: port} }
func tunnel(host int) api.Act      { return api.Act{Kind: api.ActTunnel, Port: host} }
func look(port int) api.Act        { return api.Act{Kind: api.ActCtLook, Port: port} }
func commit(port int) api.Act      { return api.Act{Kind: api.ActCtCommit, Port: port} }
func pick(ways ...api.Way) api.Act { return api.Act{Kind: api.ActPick, Ways: ways} }

func flow(table, priority int, l []api.Term, a ...api.Act) api.Flow {
	return api.Flow{Table: table, Priority: priority, Terms: l, Acts: a}
}

// program is a Program of those flows.
func program(t *testing.T, l ...api.Flow) *dpath.Program {
	t.Helper()
	p, e := dpath.New(l)
	if p == nil || e != api.OK {
		t.Fatalf("New of %d flows: %v, %d", len(l), p, e)
	}
	return p
}

// has asks that a Program's flows are those, in that order.
func has(t *testing.T, what string, p *dpath.Program, want ...api.Flow) {
	t.Helper()
	if l := p.Flows(); !slices.EqualFunc(l, want, dpath.Same) {
		t.Errorf("%s: %+v, not %+v", what, l, want)
	}
}

// wrongTerms is Terms that are not in form.
func wrongTerms() [][]api.Term {
	return [][]api.Term{
		terms(term(0, 1, 1)), terms(term(29, 1, 1)), terms(term(-1, 1, 1)), terms(term(api.IpDst, 0, 0)), terms(term(api.IpDst, 2, 1)),
		terms(term(api.IpTtl, 0, 256)), terms(term(api.IpDst, 1, 1), term(api.IpDst, 2, 2)), terms(term(api.TpDst, 1, 1), term(api.IpDst, 1, 1)),
	}
}

// manyActs is so many actions that each may be.
func manyActs(n int) []api.Act {
	return slices.Repeat(acts(output(1)), n)
}

// wrongActs is actions that act.CheckAll refuses.
func wrongActs() [][]api.Act {
	deep := clone(clone(clone(clone(clone()))))
	return [][]api.Act{
		acts(api.Act{}), acts(api.Act{Kind: 15}), acts(goTo(64)), acts(goTo(-1)), acts(output(-1)), acts(output(65536)), acts(pick()),
		acts(set(api.EthType, 1, 1)), acts(set(api.IpTtl, 1, 0)), acts(hop(), api.Act{Kind: api.ActHop, Port: 1}), acts(clone(goTo(64))), acts(clone(deep)),
		manyActs(4097), acts(clone(manyActs(4096)...)),
	}
}

// P13.1: a flow that may not be, alone and behind others.
func TestNewRefuses(t *testing.T) {
	type fault struct {
		f    api.Flow
		want api.Errno
	}
	var l []fault
	for _, n := range []int{-1, 64, 65, math.MinInt, math.MaxInt, 1 << 32} {
		l = append(l, fault{flow(n, 1, nil), api.ErrArg})
	}
	for _, n := range []int{-1, 65536, math.MinInt, math.MaxInt, 1 << 32} {
		l = append(l, fault{flow(1, n, nil), api.ErrArg})
	}
	for _, x := range wrongTerms() {
		l = append(l, fault{flow(1, 1, x), api.ErrMatch})
	}
	for _, x := range wrongActs() {
		l = append(l, fault{flow(1, 1, nil, x...), act.CheckAll(x)})
	}
	for _, x := range l {
		for _, flows := range [][]api.Flow{{x.f}, {flow(0, 1, nil, hop()), x.f}, {x.f, flow(0, 1, nil)}, {flow(0, 1, nil), x.f, flow(0, 2, nil)}} {
			if p, e := dpath.New(flows); p != nil || e != x.want || e == api.OK {
				t.Errorf("%+v: %v, %d, not %d", flows, p, e, x.want)
			}
		}
	}
}

// P13.1: the edges of what may be.
func TestNewTakes(t *testing.T) {
	l := []api.Flow{
		flow(0, 65535, nil), flow(0, 0, nil), flow(1, 1, nil, manyActs(4096)...), flow(2, 1, nil, clone(clone(clone(clone(hop()))))),
		flow(3, 1, nil, clone(manyActs(4095)...)), flow(63, 65535, nil, goTo(63)), flow(63, 0, terms(term(api.EthDst, 0, 1)), goTo(0)),
	}
	has(t, "edges", program(t, l...), l...)
	has(t, "none", program(t))
	if p, e := dpath.New([]api.Flow{}); p == nil || e != api.OK || len(p.Flows()) != 0 {
		t.Errorf("an empty list: %v, %d", p, e)
	}
}

// P13.1: flows with the same Table, Priority and Terms.
func TestNewTwice(t *testing.T) {
	web := func() []api.Term { return terms(term(api.IpDst, 1, all32), term(api.TpDst, 80, all16)) }
	for _, l := range [][]api.Flow{
		{flow(1, 2, nil), flow(1, 2, nil)},
		{flow(1, 2, nil, hop()), flow(1, 2, []api.Term{}, output(1))},
		{flow(1, 2, web()), flow(1, 3, web()), flow(1, 2, web(), hop())},
		{flow(0, 0, web()), flow(63, 65535, nil), flow(63, 65535, nil)},
	} {
		if p, e := dpath.New(l); p != nil || e != api.ErrTwice {
			t.Errorf("%+v: %v, %d", l, p, e)
		}
	}
	apart := []api.Flow{
		flow(1, 12, nil), flow(1, 2, nil), flow(1, 2, terms(term(api.IpDst, 1, all32))), flow(1, 2, web()), flow(1, 2, terms(term(api.IpDst, 1, 1))),
		flow(1, 2, terms(term(api.IpDst, 0, 1))), flow(1, 2, terms(term(api.IpSrc, 1, 1))), flow(2, 2, web()), flow(11, 2, nil),
	}
	if p := program(t, apart...); len(p.Flows()) != len(apart) {
		t.Errorf("%+v", p.Flows())
	}
}

// P13.1: which fault of several is told.
func TestNewFirstFault(t *testing.T) {
	terrible, idle := wrongTerms()[0], api.Act{}
	for _, x := range []struct {
		l    []api.Flow
		want api.Errno
	}{
		{[]api.Flow{flow(64, 1, terrible, idle)}, api.ErrArg},
		{[]api.Flow{flow(1, 65536, terrible, idle)}, api.ErrArg},
		{[]api.Flow{flow(1, 1, terrible, idle)}, api.ErrMatch},
		{[]api.Flow{flow(1, 1, terrible), flow(1, 1, terrible)}, api.ErrMatch},
		{[]api.Flow{flow(1, 1, nil), flow(1, 1, nil, idle)}, api.ErrAct},
		{[]api.Flow{flow(1, 1, nil), flow(1, 1, nil, manyActs(4097)...)}, api.ErrLong},
		{[]api.Flow{flow(1, 1, nil, append(manyActs(4097), idle)...)}, api.ErrAct},
		{[]api.Flow{flow(1, 1, nil, idle), flow(1, 1, terrible), flow(-1, 1, nil)}, api.ErrAct},
		{[]api.Flow{flow(1, 1, terrible), flow(-1, 1, nil), flow(1, 2, nil, idle)}, api.ErrMatch},
		{[]api.Flow{flow(1, 1, nil), flow(1, 1, nil), flow(-1, 1, nil)}, api.ErrTwice},
		{[]api.Flow{flow(1, 1, nil), flow(-1, 1, nil), flow(1, 1, nil)}, api.ErrArg},
	} {
		if p, e := dpath.New(x.l); p != nil || e != x.want {
			t.Errorf("%+v: %v, %d, not %d", x.l, p, e, x.want)
		}
	}
}

// P13.1, P13.2: as many flows as there may be, and one more.
func TestFull(t *testing.T) {
	var l []api.Flow
	for i := range 65536 {
		l = append(l, flow(i%64, i/64%8, terms(term(api.Reg0, uint64(i), all32)), output(i)))
	}
	p := program(t, l...)
	if n := len(p.Flows()); n != 65536 {
		t.Errorf("%d flows", n)
	}
	for _, more := range []api.Flow{flow(1, 9, nil), flow(-1, 1, nil), flow(1, 1, wrongTerms()[0]), l[0]} {
		for _, full := range [][]api.Flow{append(slices.Clone(l), more), append([]api.Flow{more}, l...)} {
			if q, e := dpath.New(full); q != nil || e != api.ErrFull {
				t.Errorf("%v, %d", q, e)
			}
			if a, r, e := p.Set(full); a != 0 || r != 0 || e != api.ErrFull {
				t.Errorf("Set: %d, %d, %d", a, r, e)
			}
		}
	}
	if a, r, e := p.Set(l[:65535]); a != 0 || r != 1 || e != api.OK {
		t.Errorf("Set: %d, %d, %d", a, r, e)
	}
}

// sixFlows is flows in their order.
func sixFlows() []api.Flow {
	return []api.Flow{
		flow(2, 10, nil, hop()),
		flow(2, 9, terms(term(api.ArpOp, 1, all16)), output(1)),                // arp.op == 0x1
		flow(2, 9, terms(term(api.IpDst, 16, all32), term(api.IpTtl, 1, 255))), // ip4.dst == 0x10 && ip.ttl == 0x1
		flow(2, 9, terms(term(api.IpDst, 9, all32)), output(2)),                // ip4.dst == 0x9
		flow(10, 65535, nil, clone(goTo(11))),
		flow(10, 0, terms(term(api.Reg1, 0, 1))),
	}
}

// P13.1, P13.4: in whatever order flows come, their order is one.
func TestOrder(t *testing.T) {
	want := sixFlows()
	var permute func(l []api.Flow, from int)
	permute = func(l []api.Flow, from int) {
		if from == len(l) {
			has(t, "another order", program(t, l...), want...)
		}
		for i := from; i < len(l); i++ {
			l[from], l[i] = l[i], l[from]
			permute(l, from+1)
			l[from], l[i] = l[i], l[from]
		}
	}
	permute(sixFlows(), 0)
}

// oneFlow is a flow with something everywhere, whether it may be or not.
func oneFlow() api.Flow {
	a := func(l ...api.Act) api.Act {
		return api.Act{
			Kind: 1, Field: 2, From: 3, Value: 4, Mask: 5, Table: 6, Port: 7, Acts: l,
			Ways: []api.Way{{Ip: 8, Port: 9}, {Ip: 10, Port: 11}}, Lease: api.Lease{Mac: 12, Ip: 13, Server: 14, Mask: 15, Router: 16, Time: 17},
		}
	}
	return flow(1, 2, terms(term(3, 4, 5), term(6, 7, 8)), a(), a(a(), a(a())))
}

// changesOfAct is changes of an action, each in one place.
func changesOfAct() []func(a *api.Act) {
	return []func(a *api.Act){
		func(a *api.Act) { a.Kind++ }, func(a *api.Act) { a.Field++ }, func(a *api.Act) { a.From++ }, func(a *api.Act) { a.Value ^= 1 << 63 },
		func(a *api.Act) { a.Mask ^= 1 << 63 }, func(a *api.Act) { a.Table = -1 }, func(a *api.Act) { a.Port++ },
		func(a *api.Act) { a.Acts = append(a.Acts, api.Act{}) }, func(a *api.Act) { a.Ways = a.Ways[:1] }, func(a *api.Act) { a.Ways = nil },
		func(a *api.Act) { a.Ways[1].Ip++ }, func(a *api.Act) { a.Ways[0].Port++ }, func(a *api.Act) { a.Ways = append(a.Ways, api.Way{}) },
		func(a *api.Act) { slices.Reverse(a.Ways) },
		func(a *api.Act) { a.Lease.Mac++ }, func(a *api.Act) { a.Lease.Ip++ }, func(a *api.Act) { a.Lease.Server++ },
		func(a *api.Act) { a.Lease.Mask++ }, func(a *api.Act) { a.Lease.Router++ }, func(a *api.Act) { a.Lease.Time++ },
	}
}

// P13.1: Same of flows that part in one place.
func TestSame(t *testing.T) {
	changes := []func(f *api.Flow){
		func(f *api.Flow) { f.Table++ }, func(f *api.Flow) { f.Priority-- }, func(f *api.Flow) { f.Terms = f.Terms[:1] }, func(f *api.Flow) { f.Terms = nil },
		func(f *api.Flow) { f.Terms[1].Field++ }, func(f *api.Flow) { f.Terms[0].Value++ }, func(f *api.Flow) { f.Terms[1].Mask++ },
		func(f *api.Flow) { slices.Reverse(f.Terms) }, func(f *api.Flow) { f.Acts = f.Acts[:1] }, func(f *api.Flow) { f.Acts = nil }, func(f *api.Flow) { slices.Reverse(f.Acts) },
	}
	for _, change := range changesOfAct() {
		changes = append(changes, func(f *api.Flow) { change(&f.Acts[0]) }, func(f *api.Flow) { change(&f.Acts[1]) },
			func(f *api.Flow) { change(&f.Acts[1].Acts[0]) }, func(f *api.Flow) { change(&f.Acts[1].Acts[1].Acts[0]) })
	}
	for i, change := range changes {
		a, b, c := oneFlow(), oneFlow(), oneFlow()
		change(&b)
		change(&c)
		if !dpath.Same(a, oneFlow()) || dpath.Same(a, b) || dpath.Same(b, a) || !dpath.Same(b, c) {
			t.Errorf("change %d", i)
		}
	}
	empty := flow(0, 0, []api.Term{}, api.Act{Acts: []api.Act{}, Ways: []api.Way{}})
	if !dpath.Same(empty, flow(0, 0, nil, api.Act{})) || !dpath.Same(api.Flow{Acts: []api.Act{}}, api.Flow{}) || dpath.Same(empty, api.Flow{}) {
		t.Errorf("empty lists")
	}
}

// P13.1: Same of flows that lie as deep as may be handed in.
func TestSameDeep(t *testing.T) {
	deep := func(last api.Act) api.Flow {
		for range 1<<16 - 1 {
			last = clone(last)
		}
		return flow(0, 0, nil, last)
	}
	a, b, c := deep(hop()), deep(hop()), deep(output(0))
	if !dpath.Same(a, b) || dpath.Same(a, c) {
		t.Errorf("deep ones")
	}
	if p, e := dpath.New([]api.Flow{a}); p != nil || e != api.ErrAct {
		t.Errorf("%v, %d", p, e)
	}
}

// sets asks what Set answers, and which flows are there then.
func sets(t *testing.T, p *dpath.Program, l []api.Flow, added, removed int) {
	t.Helper()
	if a, r, e := p.Set(l); a != added || r != removed || e != api.OK {
		t.Errorf("Set: %d, %d, %d, not %d, %d", a, r, e, added, removed)
	}
	has(t, "set", p, program(t, l...).Flows()...)
}

// P13.2: how many came, and went.
func TestSet(t *testing.T) {
	l := sixFlows()
	p := program(t)
	sets(t, p, nil, 0, 0)
	sets(t, p, l, 6, 0)
	sets(t, p, l, 0, 0)
	sets(t, p, p.Flows(), 0, 0)
	slices.Reverse(l)
	sets(t, p, l, 0, 0)
	sets(t, p, l[2:], 0, 2)
	sets(t, p, l[:4], 2, 2)
	sets(t, p, nil, 0, 4)
	sets(t, p, l, 6, 0)
	other := sixFlows()
	other[0].Acts = acts(hop(), hop())
	sets(t, p, other, 1, 1)
	other[4].Acts[0].Acts[0].Table = 12
	sets(t, p, other, 1, 1)
	other[1].Priority--
	sets(t, p, other, 1, 1)
	other[2].Table++
	other[5].Terms[0].Value = 1
	sets(t, p, other, 2, 2)
	other[5].Acts = []api.Act{}
	other[0].Terms = []api.Term{}
	sets(t, p, other, 0, 0)
	sets(t, p, []api.Flow{flow(5, 5, nil)}, 1, 6)
}

// P13.2: a Set that is refused leaves all as it was.
func TestSetRefuses(t *testing.T) {
	want := program(t, sixFlows()...).Flows()
	p := program(t, sixFlows()...)
	for _, x := range []struct {
		f    api.Flow
		want api.Errno
	}{
		{flow(64, 0, nil), api.ErrArg}, {flow(-1, 0, nil), api.ErrArg}, {flow(0, -1, nil), api.ErrArg}, {flow(0, 65536, nil), api.ErrArg},
		{flow(0, 0, wrongTerms()[3]), api.ErrMatch}, {flow(0, 0, nil, api.Act{}), api.ErrAct}, {flow(0, 0, nil, manyActs(4097)...), api.ErrLong}, {flow(0, 1, nil), api.ErrTwice},
	} {
		if a, r, e := p.Set([]api.Flow{flow(0, 1, nil, output(9)), x.f}); a != 0 || r != 0 || e != x.want {
			t.Errorf("%+v: %d, %d, %d, not %d", x.f, a, r, e, x.want)
		}
		has(t, "refused", p, want...)
		runs(t, "refused", p, table(t), 0, udp(), 0)
	}
}

// P13.3: Programs that New did not make.
func TestClosed(t *testing.T) {
	for _, p := range []*dpath.Program{nil, {}} {
		for _, l := range [][]api.Flow{nil, sixFlows(), {flow(-1, -1, nil)}} {
			if a, r, e := p.Set(l); a != 0 || r != 0 || e != api.ErrClosed {
				t.Errorf("Set: %d, %d, %d", a, r, e)
			}
		}
		if l := p.Flows(); len(l) != 0 {
			t.Errorf("Flows: %+v", l)
		}
		for _, n := range []int{-1, 0, 63, 64} {
			if l, goes, e := p.Run(table(t), n, udp()); len(l) != 0 || goes != 0 || e != api.ErrClosed {
				t.Errorf("Run: %+v, %d, %d", l, goes, e)
			}
		}
		if l, goes, e := p.Run(nil, 0, udp()); len(l) != 0 || goes != 0 || e != api.ErrClosed {
			t.Errorf("Run: %+v, %d, %d", l, goes, e)
		}
	}
}

// deepFlows is flows with lists at all places.
func deepFlows() []api.Flow {
	return []api.Flow{
		flow(0, 2, terms(term(api.Reg0, 0, 1)), clone(pick(api.Way{Ip: 5, Port: 6}), clone(pick(api.Way{Ip: 7, Port: 8}), output(1)), output(2)), pick(api.Way{Ip: 9, Port: 10}), output(3)),
		flow(0, 1, nil, output(4)),
	}
}

// spoil changes all that a list of flows leads to.
func spoil(l []api.Flow) {
	var spoilActs func(l []api.Act)
	spoilActs = func(l []api.Act) {
		for i := range l {
			spoilActs(l[i].Acts)
			for k := range l[i].Ways {
				l[i].Ways[k] = api.Way{Ip: 99, Port: 99}
			}
			l[i] = hop()
		}
	}
	for i := range l {
		spoilActs(l[i].Acts)
		for k := range l[i].Terms {
			l[i].Terms[k] = term(api.Reg3, 1, 1)
		}
		l[i] = flow(9, 9, nil)
	}
}

// R3: a Program keeps nothing of what it is given, and gives out nothing of what it keeps.
func TestApart(t *testing.T) {
	p, q := program(t), program(t)
	want := deepFlows()
	check := func(what string) {
		t.Helper()
		has(t, what, p, want...)
		sent := runs(t, what, p, table(t), 0, udp(), 0)
		if len(sent) != 3 || sent[0].State.P.Ip.Dst != 7 || sent[1].State.P.Ip.Dst != 5 || sent[2].State.P.L4.Dport != 10 {
			t.Errorf("%s: %+v", what, sent)
		}
	}
	l := deepFlows()
	p = program(t, l...)
	if !slices.EqualFunc(l, want, dpath.Same) {
		t.Errorf("New changes what it is given: %+v", l)
	}
	spoil(l)
	check("behind New")
	l = deepFlows()
	if a, r, e := q.Set(l); a != 2 || r != 0 || e != api.OK {
		t.Errorf("Set: %d, %d, %d", a, r, e)
	}
	spoil(l)
	p, q = q, p
	check("behind Set")
	a, b := p.Flows(), p.Flows()
	spoil(a)
	if !slices.EqualFunc(b, want, dpath.Same) {
		t.Errorf("two answers of Flows are one: %+v", b)
	}
	check("behind Flows")
	if _, _, e := q.Set(nil); e != api.OK {
		t.Errorf("%d", e)
	}
	check("behind a Set of another one")
	room := append(deepFlows(), flow(1, 1, nil))
	program(t, room[:2]...)
	if !dpath.Same(room[2], flow(1, 1, nil)) {
		t.Errorf("the room behind the list: %+v", room[2])
	}
}

// P13.4: flows come and go in any order; the same are there, and run the same.
func TestSetAsNew(t *testing.T) {
	r := rand.New(rand.NewSource(13))
	for range 60 {
		l := randomFlows(r)
		p := program(t, randomFlows(r)...)
		for range r.Intn(3) {
			if _, _, e := p.Set(randomFlows(r)); e != api.OK {
				t.Fatalf("%d", e)
			}
		}
		old := p.Flows()
		r.Shuffle(len(l), func(i, k int) { l[i], l[k] = l[k], l[i] })
		kept := 0
		for _, f := range l {
			if slices.ContainsFunc(old, func(g api.Flow) bool { return dpath.Same(f, g) }) {
				kept++
			}
		}
		sets(t, p, l, len(l)-kept, len(old)-kept)
		q := program(t, l...)
		for range 10 {
			s := randomState(r)
			a, b := table(t), table(t)
			x, n, e := p.Run(a, 0, s)
			y, m, d := q.Run(b, 0, s)
			if !slices.Equal(x, y) || n != m || e != d {
				t.Errorf("%d, %d, %d, not %d, %d, %d", len(x), n, e, len(y), m, d)
			}
			sameConns(t, a, b)
		}
	}
}
