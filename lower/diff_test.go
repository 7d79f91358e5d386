package lower_test

import (
	"fmt"
	"math/rand"
	"slices"
	"testing"

	"skein/api"
	"skein/dpath"
	"skein/lower"
)

// full is a flow of which no field is its zero value, wherever an action stands.
func full() api.Flow {
	a := api.Act{Kind: 1, Field: 2, From: 3, Value: 4, Mask: 5, Table: 6, Port: 7, Ways: []api.Way{{Ip: 8, Port: 9}, {Ip: 8, Port: 10}}, Lease: api.Lease{Mac: 11, Ip: 12, Server: 13, Mask: 14, Router: 15, Time: 16}}
	b := a
	b.Acts = []api.Act{a, a}
	return api.Flow{Table: 17, Priority: 18, Terms: []api.Term{{Field: 19, Value: 20, Mask: 21}, {Field: 22, Value: 23, Mask: 24}}, Acts: []api.Act{a, b}}
}

// copyOf is a flow that shares no list with another one.
func copyOf(f api.Flow) api.Flow {
	f.Terms = slices.Clone(f.Terms)
	var acts func(l []api.Act) []api.Act
	acts = func(l []api.Act) []api.Act {
		l = slices.Clone(l)
		for i := range l {
			l[i].Ways, l[i].Acts = slices.Clone(l[i].Ways), acts(l[i].Acts)
		}
		return l
	}
	f.Acts = acts(f.Acts)
	return f
}

// changes is what makes another flow of the full one, each in one field alone.
func changes() []func(f *api.Flow) {
	l := []func(f *api.Flow){
		func(f *api.Flow) { f.Table++ }, func(f *api.Flow) { f.Table = -17 }, func(f *api.Flow) { f.Priority++ },
		func(f *api.Flow) { f.Table, f.Priority = f.Priority, f.Table },
		func(f *api.Flow) { f.Terms[0].Field++ }, func(f *api.Flow) { f.Terms[1].Value++ }, func(f *api.Flow) { f.Terms[1].Mask++ }, func(f *api.Flow) { f.Terms[0].Value |= 1 << 63 },
		func(f *api.Flow) { f.Terms = f.Terms[:1] }, func(f *api.Flow) { f.Terms = nil }, func(f *api.Flow) { f.Terms = append(f.Terms, api.Term{}) }, func(f *api.Flow) { slices.Reverse(f.Terms) },
		func(f *api.Flow) { f.Acts = f.Acts[:1] }, func(f *api.Flow) { f.Acts = nil }, func(f *api.Flow) { f.Acts = append(f.Acts, api.Act{}) }, func(f *api.Flow) { slices.Reverse(f.Acts) },
		func(f *api.Flow) { f.Acts[0].Acts = []api.Act{{}} }, func(f *api.Flow) { f.Acts[1].Acts = nil }, func(f *api.Flow) { f.Acts[1].Acts = f.Acts[1].Acts[:1] },
	}
	for _, at := range []func(f *api.Flow) *api.Act{
		func(f *api.Flow) *api.Act { return &f.Acts[0] }, func(f *api.Flow) *api.Act { return &f.Acts[1] }, func(f *api.Flow) *api.Act { return &f.Acts[1].Acts[1] },
	} {
		for _, change := range []func(a *api.Act){
			func(a *api.Act) { a.Kind++ }, func(a *api.Act) { a.Field++ }, func(a *api.Act) { a.From++ }, func(a *api.Act) { a.Value++ }, func(a *api.Act) { a.Mask++ },
			func(a *api.Act) { a.Table++ }, func(a *api.Act) { a.Port++ }, func(a *api.Act) { a.Lease.Mac++ }, func(a *api.Act) { a.Lease.Ip++ }, func(a *api.Act) { a.Lease.Server++ },
			func(a *api.Act) { a.Lease.Mask++ }, func(a *api.Act) { a.Lease.Router++ }, func(a *api.Act) { a.Lease.Time++ },
			func(a *api.Act) { a.Ways[0].Ip++ }, func(a *api.Act) { a.Ways[1].Port++ }, func(a *api.Act) { a.Ways = nil }, func(a *api.Act) { a.Ways = a.Ways[:1] }, func(a *api.Act) { slices.Reverse(a.Ways) },
		} {
			l = append(l, func(f *api.Flow) { change(at(f)) })
		}
	}
	return l
}

// P22.2: flows that differ in one field alone; of the full one, and of all that are made from it.
func TestDiffOfOneField(t *testing.T) {
	var all []api.Flow
	for i, change := range changes() {
		f := copyOf(full())
		change(&f)
		all = append(all, f)
		added, removed := lower.Diff([]api.Flow{full()}, []api.Flow{f})
		if len(added) != 1 || len(removed) != 1 || !dpath.Same(added[0], f) || !dpath.Same(removed[0], full()) {
			t.Errorf("change %d: %+v, %+v", i, added, removed)
		}
	}
	added, removed := lower.Diff([]api.Flow{full()}, all)
	if !slices.EqualFunc(added, all, dpath.Same) || len(removed) != 1 {
		t.Errorf("%d added, %d removed", len(added), len(removed))
	}
	if added, removed := lower.Diff(append([]api.Flow{full()}, all...), append(all, full())); len(added) != 0 || len(removed) != 0 {
		t.Errorf("all: %d added, %d removed", len(added), len(removed))
	}
}

// P22.2: the same, none with some, in another order, some of them twice.
func TestDiff(t *testing.T) {
	n := func(l ...int) []api.Flow {
		var out []api.Flow
		for _, x := range l {
			f := copyOf(full())
			f.Acts[1].Acts[1].Port = x
			out = append(out, f)
		}
		return out
	}
	for _, x := range []struct{ a, b, added, removed []int }{
		{nil, nil, nil, nil},
		{[]int{1}, []int{1}, nil, nil},
		{nil, []int{2, 1}, []int{2, 1}, nil},
		{[]int{2, 3, 1}, nil, nil, []int{2, 3, 1}},
		{[]int{1, 2, 3}, []int{3, 1, 2}, nil, nil},
		{[]int{1, 2, 3}, []int{4, 2, 0}, []int{4, 0}, []int{1, 3}},
		{[]int{3, 2, 1}, []int{9, 2, 8}, []int{9, 8}, []int{3, 1}},
		{[]int{1, 1}, []int{1}, nil, nil},
		{[]int{1}, []int{1, 1, 2, 2}, []int{2, 2}, nil},
		{[]int{5, 1, 5}, []int{1}, nil, []int{5, 5}},
	} {
		added, removed := lower.Diff(n(x.a...), n(x.b...))
		if !slices.EqualFunc(added, n(x.added...), dpath.Same) || !slices.EqualFunc(removed, n(x.removed...), dpath.Same) {
			t.Errorf("%v: %d added, %d removed", x, len(added), len(removed))
		}
	}
	// nil and the empty list are the same, in flows too.
	empty := api.Flow{Terms: []api.Term{}, Acts: []api.Act{{Acts: []api.Act{}, Ways: []api.Way{}}}}
	if added, removed := lower.Diff([]api.Flow{{Acts: []api.Act{{}}}}, []api.Flow{empty}); len(added) != 0 || len(removed) != 0 {
		t.Errorf("nil and empty: %+v, %+v", added, removed)
	}
}

// P22.2: as a model has it that holds each against each.
func TestDiffAsModel(t *testing.T) {
	chance := rand.New(rand.NewSource(23))
	without := func(l, other []api.Flow) []api.Flow {
		return slices.DeleteFunc(slices.Clone(l), func(f api.Flow) bool {
			return slices.ContainsFunc(other, func(g api.Flow) bool { return dpath.Same(f, g) })
		})
	}
	for range 300 {
		some := func() []api.Flow {
			var out []api.Flow
			for range chance.Intn(8) {
				out = append(out, api.Flow{Table: chance.Intn(2), Priority: chance.Intn(2), Terms: make([]api.Term, chance.Intn(3)), Acts: make([]api.Act, chance.Intn(2))})
			}
			return out
		}
		a, b := some(), some()
		added, removed := lower.Diff(a, b)
		if !slices.EqualFunc(added, without(b, a), dpath.Same) || !slices.EqualFunc(removed, without(a, b), dpath.Same) {
			t.Errorf("%+v, %+v: %+v, %+v", a, b, added, removed)
		}
	}
}

// P22.2: of programs, one of which leads to the other one: what is taken out and put in again.
func TestDiffOfPrograms(t *testing.T) {
	rows := net()
	a := lower.Program(rows, netKeys(), 0)
	rows[slices.IndexFunc(rows, func(r api.Row) bool { return r.Kind == api.RowBind && r.Name == "b" })].Num = 0
	b := lower.Program(rows, netKeys(), 0)
	added, removed := lower.Diff(a, b)
	if len(added) != 2 || len(removed) != 1 || added[0].Table != 9 || added[1].Table != 13 || removed[0].Acts[0].Kind != api.ActTunnel {
		t.Errorf("%s\nand\n%s", tell(added), tell(removed))
	}
	p, _ := dpath.New(a)
	if in, out, e := p.Set(b); in != len(added) || out != len(removed) || e != api.OK {
		t.Errorf("Set: %d, %d, %d", in, out, e)
	}
	if added, removed := lower.Diff(b, b); len(added) != 0 || len(removed) != 0 {
		t.Errorf("the same: %s, %s", tell(added), tell(removed))
	}
}

// P22.2: as many flows as there may be, all of them of one table, priority, and terms.
func TestDiffOfMany(t *testing.T) {
	flows := func(from int) []api.Flow {
		var out []api.Flow
		for i := range api.MaxRules {
			out = append(out, api.Flow{Acts: []api.Act{{Kind: api.ActOutput, Port: from + i}}})
		}
		return out
	}
	added, removed := lower.Diff(flows(0), flows(5))
	if len(added) != 5 || len(removed) != 5 || added[0].Acts[0].Port != api.MaxRules || removed[4].Acts[0].Port != 4 {
		t.Errorf("%d added, %d removed", len(added), len(removed))
	}
}

// R3: what Diff answers shares nothing with what it is given, nor with itself.
func TestDiffApart(t *testing.T) {
	a, b := []api.Flow{full(), {Table: 1}}, []api.Flow{copyOf(full()), copyOf(full())}
	b[0].Acts[1].Acts[0].Port, b[1].Table = 99, 99
	kept := fmt.Sprintf("%+v %+v", a, b)
	added, removed := lower.Diff(a, b)
	if len(added) != 2 || len(removed) != 2 {
		t.Fatalf("%+v, %+v", added, removed)
	}
	apart(t, append(added, removed...))
	if now := fmt.Sprintf("%+v %+v", a, b); now != kept {
		t.Errorf("what was handed in: %s", now)
	}
}

// R1: as many Clones within one another as anything is promised of.
func TestDiffOfNested(t *testing.T) {
	nest := func(port int) api.Flow {
		a := api.Act{Port: port}
		for range 1 << 16 {
			a = api.Act{Kind: api.ActClone, Acts: []api.Act{a}}
		}
		return api.Flow{Acts: []api.Act{a}}
	}
	added, removed := lower.Diff([]api.Flow{nest(1), nest(2)}, []api.Flow{nest(2), nest(3)})
	if len(added) != 1 || len(removed) != 1 || !dpath.Same(added[0], nest(3)) || !dpath.Same(removed[0], nest(1)) {
		t.Errorf("%d added, %d removed", len(added), len(removed))
	}
}
