package act_test

import (
	"math"
	"slices"
	"strings"
	"testing"

	"skein/act"
	"skein/api"
	"skein/field"
)

// use is a field of an action, and how it comes to be another than its zero value.
type use struct {
	name string
	put  func(a *api.Act)
}

func uses() []use {
	return []use{
		{"Field", func(a *api.Act) { a.Field = api.Reg0 }},
		{"From", func(a *api.Act) { a.From = api.Reg1 }},
		{"Value", func(a *api.Act) { a.Value = 1 }},
		{"Mask", func(a *api.Act) { a.Mask = 1 }},
		{"Table", func(a *api.Act) { a.Table = 1 }},
		{"Port", func(a *api.Act) { a.Port = 1 }},
		{"Acts", func(a *api.Act) { a.Acts = []api.Act{{Kind: api.ActHop}} }},
		{"Ways", func(a *api.Act) { a.Ways = []api.Way{{Ip: 1, Port: 1}} }},
		{"Lease", func(a *api.Act) { a.Lease.Time = 1 }},
	}
}

// kind is a kind of actions as the document's table has it: which fields it uses, and one that is right.
type kind struct {
	what  string
	used  string
	right api.Act
}

func kinds() []kind {
	ways := []api.Way{{Ip: 7, Port: 70}, {Ip: 8}, {Ip: 7, Port: 70}}
	lease := api.Lease{Mac: 1, Ip: 2, Server: 3, Mask: 4, Router: 5, Time: 6}
	return []kind{
		{"Set", "Field Value Mask", api.Act{Kind: 1, Field: api.IpTtl, Value: 3, Mask: 255}},
		{"Move", "From Field", api.Act{Kind: 2, From: api.InPort, Field: api.OutPort}},
		{"Hop", "", api.Act{Kind: 3}},
		{"Go", "Table", api.Act{Kind: 4, Table: 9}},
		{"Clone", "Acts", api.Act{Kind: 5, Acts: []api.Act{{Kind: 3}, {Kind: 6, Port: 3}}}},
		{"Output", "Port", api.Act{Kind: 6, Port: 3}},
		{"Tunnel", "Port", api.Act{Kind: 7, Port: 3}},
		{"CtLook", "Port", api.Act{Kind: 8, Port: 1}},
		{"CtCommit", "Port", api.Act{Kind: 9, Port: 1}},
		{"Pick", "Ways", api.Act{Kind: 10, Ways: ways}},
		{"Arp", "Value", api.Act{Kind: 11, Value: 5}},
		{"Echo", "", api.Act{Kind: 12}},
		{"Error", "Port Table Value From", api.Act{Kind: 13, Port: 11, Table: 1, Value: 5, From: 6}},
		{"Dhcp", "Lease Value", api.Act{Kind: 14, Lease: lease, Value: 5}},
	}
}

// isUsed tells whether a kind uses a field.
func (k kind) isUsed(u use) bool {
	return slices.Contains(strings.Fields(k.used), u.name)
}

// checks asks what Check tells of an action, by itself, as a list, and within a Clone.
func checks(t *testing.T, what string, a api.Act, want api.Errno) {
	t.Helper()
	if e := act.Check(a); e != want {
		t.Errorf("%s: Check of %+v: %d, not %d", what, a, e, want)
	}
	if e := act.CheckAll([]api.Act{{Kind: api.ActHop}, a, {Kind: api.ActEcho}}); e != want {
		t.Errorf("%s: CheckAll of %+v: %d, not %d", what, a, e, want)
	}
	if e := act.Check(cloned(1, api.Act{Kind: api.ActHop}, a)); e != want {
		t.Errorf("%s: Check of a Clone of %+v: %d, not %d", what, a, e, want)
	}
}

// cloned is actions in so many Clones.
func cloned(depth int, l ...api.Act) api.Act {
	a := api.Act{Kind: api.ActClone, Acts: l}
	for range depth - 1 {
		a = api.Act{Kind: api.ActClone, Acts: []api.Act{a}}
	}
	return a
}

// P11.1: the kinds, and none.
func TestCheckKinds(t *testing.T) {
	for i, k := range kinds() {
		if k.right.Kind != i+1 {
			t.Fatal(k.what)
		}
		checks(t, k.what, k.right, api.OK)
	}
	for _, n := range []int{0, -1, 15, 16, 256 + 1, 1<<32 + 3, -14, math.MinInt, math.MaxInt} {
		checks(t, "no kind", api.Act{Kind: n}, api.ErrAct)
		for _, k := range kinds() {
			a := k.right
			a.Kind = n
			checks(t, "no kind", a, api.ErrAct)
		}
	}
}

// P11.1: the constants of package api are the table's.
func TestConstants(t *testing.T) {
	for i, n := range []int{
		api.ActSet, api.ActMove, api.ActHop, api.ActGo, api.ActClone, api.ActOutput, api.ActTunnel,
		api.ActCtLook, api.ActCtCommit, api.ActPick, api.ActArp, api.ActEcho, api.ActError, api.ActDhcp,
	} {
		if n != i+1 || kinds()[i].right.Kind != n {
			t.Errorf("%d: %d", i+1, n)
		}
	}
}

// P11.1: each field that a kind does not use.
func TestCheckUnused(t *testing.T) {
	for _, k := range kinds() {
		for _, u := range uses() {
			a := k.right
			u.put(&a)
			if !k.isUsed(u) {
				checks(t, k.what+" with "+u.name, a, api.ErrAct)
			}
		}
	}
}

// P11.1: each part of a lease that a kind does not use.
func TestCheckUnusedLease(t *testing.T) {
	for _, l := range []api.Lease{{Mac: 1}, {Ip: 1}, {Server: 1}, {Mask: 1}, {Router: 1}, {Time: 1}} {
		for _, k := range kinds() {
			a, want := k.right, api.ErrAct
			a.Lease = l
			if k.what == "Dhcp" {
				want = api.OK
			}
			checks(t, k.what, a, want)
		}
	}
}

// P11.1: numbers below 0 are no zero values either.
func TestCheckUnusedBelow(t *testing.T) {
	for _, k := range kinds() {
		for _, put := range []func(a *api.Act){
			func(a *api.Act) { a.Field = -1 }, func(a *api.Act) { a.From = -1 },
			func(a *api.Act) { a.Table = -1 }, func(a *api.Act) { a.Port = -1 },
		} {
			a := k.right
			put(&a)
			checks(t, k.what, a, api.ErrAct)
		}
	}
}

// R3: nil and the empty list are the same.
func TestCheckEmptyLists(t *testing.T) {
	for _, k := range kinds() {
		a := k.right
		if len(a.Acts) == 0 {
			a.Acts = []api.Act{}
		}
		if len(a.Ways) == 0 {
			a.Ways = []api.Way{}
		}
		checks(t, k.what, a, api.OK)
	}
	for _, l := range [][]api.Act{nil, {}, make([]api.Act, 0, 9)} {
		checks(t, "a Clone of nothing", api.Act{Kind: api.ActClone, Acts: l}, api.OK)
		if e := act.CheckAll(l); e != api.OK {
			t.Errorf("CheckAll of none: %d", e)
		}
	}
}

// ones is all bits of a field.
func ones(f int) uint64 {
	return 1<<field.Bits(f) - 1
}

func isFixed(f int) bool {
	return f == 3 || f == 12 || f == 15 // eth.type, ip.proto, ip.frag
}

// numbers is fields, and numbers that are none.
func numbers() []int {
	l := []int{0, -1, 29, 30, 64, 1<<32 + 1, math.MinInt, math.MaxInt}
	for f := 1; f <= 28; f++ {
		l = append(l, f)
	}
	return l
}

// P11.1
func TestCheckSet(t *testing.T) {
	set := func(f int, value, mask uint64, want api.Errno) {
		t.Helper()
		checks(t, "Set", api.Act{Kind: api.ActSet, Field: f, Value: value, Mask: mask}, want)
	}
	for _, f := range numbers() {
		if f < 1 || f > 28 || isFixed(f) {
			for _, mask := range []uint64{0, 1, 255, math.MaxUint64} {
				set(f, 0, mask, api.ErrAct)
				set(f, 1, mask, api.ErrAct)
			}
			continue
		}
		all := ones(f)
		set(f, 0, all, api.OK)
		set(f, all, all, api.OK)
		set(f, 0, 1, api.OK)
		set(f, 1, 1, api.OK)
		set(f, all^all>>1, all^all>>1, api.OK)
		set(f, 0, 0, api.ErrAct)
		set(f, 1, 0, api.ErrAct)
		set(f, 2, 1, api.ErrAct)
		set(f, 3, 1, api.ErrAct)
		set(f, all, all>>1, api.ErrAct)
		set(f, all+1, all, api.ErrAct)
		set(f, 0, all+1, api.ErrAct)
		set(f, all+1, all+1, api.ErrAct)
		set(f, 0, math.MaxUint64, api.ErrAct)
		set(f, 1<<63, 1<<63, api.ErrAct)
	}
}

// P11.1: a fixed field may be moved from, but not to.
func TestCheckMove(t *testing.T) {
	for _, from := range numbers() {
		for _, to := range numbers() {
			want := api.ErrAct
			if 1 <= from && from <= 28 && 1 <= to && to <= 28 && !isFixed(to) {
				want = api.OK
			}
			checks(t, "Move", api.Act{Kind: api.ActMove, From: from, Field: to}, want)
		}
	}
}

// P11.1
func TestCheckGo(t *testing.T) {
	for n, want := range map[int]api.Errno{
		0: api.OK, 1: api.OK, 63: api.OK, 64: api.ErrAct, 65: api.ErrAct, -1: api.ErrAct, 1 << 32: api.ErrAct,
		math.MinInt: api.ErrAct, math.MaxInt: api.ErrAct,
	} {
		checks(t, "Go", api.Act{Kind: api.ActGo, Table: n}, want)
	}
}

// P11.1
func TestCheckPorts(t *testing.T) {
	for n, want := range map[int]api.Errno{
		0: api.OK, 1: api.OK, 2: api.OK, 64: api.OK, 65535: api.OK, 65536: api.ErrAct, -1: api.ErrAct, 1 << 32: api.ErrAct,
		math.MinInt: api.ErrAct, math.MaxInt: api.ErrAct,
	} {
		for kind := 6; kind <= 9; kind++ {
			checks(t, "a port", api.Act{Kind: kind, Port: n}, want)
		}
		way := api.Way{Ip: 1, Port: n}
		checks(t, "a way", api.Act{Kind: api.ActPick, Ways: []api.Way{way}}, want)
		checks(t, "the last way", api.Act{Kind: api.ActPick, Ways: []api.Way{{}, {Port: 3}, way}}, want)
		checks(t, "the first way", api.Act{Kind: api.ActPick, Ways: []api.Way{way, {}, {Port: 3}}}, want)
	}
}

// P11.1
func TestCheckWays(t *testing.T) {
	for n, want := range map[int]api.Errno{0: api.ErrAct, 1: api.OK, 2: api.OK, 63: api.OK, 64: api.OK, 65: api.ErrAct, 4096: api.ErrAct} {
		checks(t, "ways", api.Act{Kind: api.ActPick, Ways: make([]api.Way, n)}, want)
	}
	checks(t, "nil", api.Act{Kind: api.ActPick}, api.ErrAct)
}

// P11.1
func TestCheckAddresses(t *testing.T) {
	for mac, want := range map[uint64]api.Errno{
		0: api.OK, 1: api.OK, api.MaxMac: api.OK, api.MaxMac + 1: api.ErrAct, 1 << 63: api.ErrAct, math.MaxUint64: api.ErrAct,
	} {
		checks(t, "Arp", api.Act{Kind: api.ActArp, Value: mac}, want)
		checks(t, "Error", api.Act{Kind: api.ActError, Value: mac}, want)
		checks(t, "Dhcp", api.Act{Kind: api.ActDhcp, Value: mac}, want)
		checks(t, "a lease", api.Act{Kind: api.ActDhcp, Lease: api.Lease{Mac: mac}, Value: 1}, want)
	}
}

// P11.1
func TestCheckError(t *testing.T) {
	for n, want := range map[int]api.Errno{
		0: api.OK, 1: api.OK, 255: api.OK, 256: api.ErrAct, -1: api.ErrAct, 1 << 32: api.ErrAct, math.MinInt: api.ErrAct, math.MaxInt: api.ErrAct,
	} {
		checks(t, "a type", api.Act{Kind: api.ActError, Port: n}, want)
		checks(t, "a code", api.Act{Kind: api.ActError, Table: n}, want)
	}
	for n, want := range map[int]api.Errno{
		0: api.OK, 1: api.OK, 1<<32 - 1: api.OK, 1 << 32: api.ErrAct, -1: api.ErrAct, math.MinInt: api.ErrAct, math.MaxInt: api.ErrAct,
	} {
		checks(t, "From", api.Act{Kind: api.ActError, From: n}, want)
	}
}

// P11.1: how deep Clones may be.
func TestCheckClones(t *testing.T) {
	out := api.Act{Kind: api.ActOutput, Port: 1}
	for depth := 1; depth <= 8; depth++ {
		want := api.OK
		if depth > 4 {
			want = api.ErrAct
		}
		for _, l := range [][]api.Act{{cloned(depth, out)}, {out, cloned(depth, out, out), out}, {cloned(1, out), cloned(depth, out)}} {
			if e := act.CheckAll(l); e != want {
				t.Errorf("%d deep: %d", depth, e)
			}
		}
		if e := act.Check(cloned(depth, out)); e != want {
			t.Errorf("%d deep: %d", depth, e)
		}
	}
	if e := act.Check(cloned(4, cloned(1))); e != api.OK {
		t.Errorf("a Clone of nothing lies four deep: %d", e)
	}
	if e := act.Check(cloned(5, cloned(1))); e != api.ErrAct {
		t.Errorf("a Clone of nothing lies five deep: %d", e)
	}
}

// P11.1: what is wrong is found wherever it lies.
func TestCheckWithin(t *testing.T) {
	out, wrong := api.Act{Kind: api.ActOutput, Port: 1}, api.Act{Kind: api.ActOutput, Port: -1}
	for depth := 1; depth <= 4; depth++ {
		if e := act.Check(cloned(depth, out, wrong, out)); e != api.ErrAct {
			t.Errorf("%d deep: %d", depth, e)
		}
		if e := act.CheckAll([]api.Act{out, cloned(depth, out), cloned(depth, wrong)}); e != api.ErrAct {
			t.Errorf("%d deep: %d", depth, e)
		}
	}
	hop := api.Act{Kind: api.ActHop, Acts: []api.Act{out}}
	if e := act.Check(cloned(1, hop)); e != api.ErrAct {
		t.Errorf("Acts of a Hop: %d", e)
	}
}

// R1: a list that lies within itself ends, too.
func TestCheckCircle(t *testing.T) {
	l := make([]api.Act, 3)
	for i := range l {
		l[i] = api.Act{Kind: api.ActClone, Acts: l}
	}
	if e := act.Check(l[0]); e != api.ErrAct {
		t.Errorf("Check: %d", e)
	}
	if e := act.CheckAll(l); e != api.ErrAct {
		t.Errorf("CheckAll: %d", e)
	}
	if s, e := act.Step(api.State{}, l[0]); s != (api.State{}) || e != api.ErrAct {
		t.Errorf("Step: %d", e)
	}
}

// hops is so many actions.
func hops(n int) []api.Act {
	l := make([]api.Act, n)
	for i := range l {
		l[i].Kind = api.ActHop
	}
	return l
}

// P11.1: how many actions there may be, those within Clones counted too.
func TestCheckAllLong(t *testing.T) {
	for _, c := range []struct {
		what string
		l    []api.Act
		want api.Errno
	}{
		{"4095", hops(4095), api.OK},
		{"4096", hops(4096), api.OK},
		{"4097", hops(4097), api.ErrLong},
		{"5000", hops(5000), api.ErrLong},
		{"a Clone of 4095", []api.Act{cloned(1, hops(4095)...)}, api.OK},
		{"a Clone of 4096", []api.Act{cloned(1, hops(4096)...)}, api.ErrLong},
		{"four Clones of 4092", []api.Act{cloned(4, hops(4092)...)}, api.OK},
		{"four Clones of 4093", []api.Act{cloned(4, hops(4093)...)}, api.ErrLong},
		{"beside a Clone", append(hops(2000), cloned(2, hops(2094)...)), api.OK},
		{"beside a Clone", append(hops(2001), cloned(2, hops(2094)...)), api.ErrLong},
		{"two Clones", []api.Act{cloned(1, hops(2047)...), cloned(1, hops(2047)...)}, api.OK},
		{"two Clones", []api.Act{cloned(1, hops(2047)...), cloned(1, hops(2048)...)}, api.ErrLong},
		{"Clones of nothing", append(hops(4095), cloned(1)), api.OK},
		{"Clones of nothing", append(hops(4096), cloned(1)), api.ErrLong},
	} {
		if e := act.CheckAll(c.l); e != c.want {
			t.Errorf("%s: %d, not %d", c.what, e, c.want)
		}
	}
	if e := act.Check(cloned(1, hops(5000)...)); e != api.OK {
		t.Errorf("one action is not too many: %d", e)
	}
}

// R2: what may not be is told ahead of too many.
func TestCheckAllOrder(t *testing.T) {
	wrong := api.Act{Kind: api.ActHop, Port: 1}
	for _, l := range [][]api.Act{
		append(hops(5000), wrong), append([]api.Act{wrong}, hops(5000)...), append(hops(5000), cloned(1, wrong)),
		append(hops(5000), cloned(5, hops(1)...)), {cloned(1, append(hops(5000), wrong)...)},
	} {
		if e := act.CheckAll(l); e != api.ErrAct {
			t.Errorf("%d", e)
		}
	}
}

// P11.2
func TestPure(t *testing.T) {
	pure := map[int]bool{1: true, 2: true, 3: true, 10: true, 11: true, 12: true, 13: true, 14: true}
	for n := -20; n <= 40; n++ {
		if act.Pure(n) != pure[n] {
			t.Errorf("%d: %v", n, act.Pure(n))
		}
	}
	for _, n := range []int{math.MinInt, math.MaxInt, 1<<32 + 1, 256 + 3} {
		if act.Pure(n) {
			t.Errorf("%d", n)
		}
	}
}
