package fabric_test

import (
	"math"
	"slices"
	"testing"

	"skein/api"
	"skein/dpath"
	"skein/fabric"
)

// P23.1: rooms that ct.New takes and refuses.
func TestNew(t *testing.T) {
	for room, want := range map[int]api.Errno{1: api.OK, 2: api.OK, 65536: api.OK, 0: api.ErrArg, -1: api.ErrArg, 65537: api.ErrArg, math.MaxInt: api.ErrArg, math.MinInt: api.ErrArg} {
		f, e := fabric.New(room)
		if e != want || (f != nil) != (want == api.OK) {
			t.Errorf("%d: %v, %d", room, f != nil, e)
		}
	}
	f, _ := fabric.New(3)
	for host := -1; host <= api.MaxHosts; host++ {
		if len(f.Flows(host)) != 0 || len(f.Conns(host, 0)) != 0 {
			t.Errorf("a new one has something at host %d", host)
		}
	}
	if _, _, _, e := f.Inject("", printed(t, plain(""))); e != api.ErrPort {
		t.Errorf("a new one has a place: %d", e)
	}
}

// P23.1: each zone of each host has room for so many.
func TestRoom(t *testing.T) {
	for _, room := range []int{1, 3} {
		f := fabricOf(t, room, two(), programs{0: {always(0, look(0), commit(0), output(1))}, 1: {always(0, look(0), commit(0), output(2))}})
		for _, port := range []string{"a", "b"} {
			for n := range 5 {
				got := inject(f, port, printed(t, udp(uint32(n+1), 9, 1, 2)))
				if (len(got.out) == 1) != (n < room) || got.e != api.OK {
					t.Errorf("room %d: the connection %d of %s: %+v", room, n, port, got)
				}
			}
		}
		if len(f.Conns(0, 1)) != room || len(f.Conns(1, 2)) != room || len(f.Conns(0, 2)) != 0 || len(f.Conns(1, 1)) != 0 {
			t.Errorf("room %d: %v, %v", room, f.Conns(0, 1), f.Conns(1, 2))
		}
	}
}

// P23.1: hosts that there are; programs that dpath.New refuses, behind which the old one stays.
func TestInstall(t *testing.T) {
	good := []api.Flow{always(0, output(1)), always(7)}
	many := make([]api.Flow, api.MaxRules+1)
	for i := range many {
		many[i] = api.Flow{Table: i % 64, Priority: i / 64}
	}
	long := make([]api.Act, api.MaxActs+1)
	for i := range long {
		long[i] = output(1)
	}
	bad := map[string]struct {
		l    []api.Flow
		want api.Errno
	}{
		"a table":    {[]api.Flow{always(64)}, api.ErrArg},
		"a priority": {[]api.Flow{{Priority: 65536}}, api.ErrArg},
		"terms":      {[]api.Flow{when(0, []api.Term{{Field: api.IpTtl}})}, api.ErrMatch},
		"an action":  {[]api.Flow{always(0, api.Act{})}, api.ErrAct},
		"too long":   {[]api.Flow{always(0, long...)}, api.ErrLong},
		"twice":      {[]api.Flow{always(3), always(3, output(1))}, api.ErrTwice},
		"too many":   {many, api.ErrFull},
	}
	f := fabricOf(t, 1, two(), nil)
	for _, host := range []int{-1, 64, math.MaxInt, math.MinInt} {
		if e := f.Install(host, good); e != api.ErrArg {
			t.Errorf("host %d: %d", host, e)
		}
		if e := f.Install(host, []api.Flow{always(3), always(3)}); e != api.ErrArg {
			t.Errorf("host %d, and another fault: %d", host, e)
		}
	}
	for _, host := range []int{0, 1, 63} {
		if e := f.Install(host, good); e != api.OK {
			t.Errorf("host %d: %d", host, e)
		}
		for what, x := range bad {
			if e := f.Install(host, x.l); e != x.want {
				t.Errorf("%s: %d, not %d", what, e, x.want)
			}
			if !slices.EqualFunc(f.Flows(host), good, dpath.Same) {
				t.Errorf("%s: the program is %+v", what, f.Flows(host))
			}
		}
	}
	if len(f.Flows(2)) != 0 || len(f.Flows(62)) != 0 {
		t.Errorf("others have a program")
	}
	if e := f.Install(0, nil); e != api.OK || len(f.Flows(0)) != 0 || len(f.Flows(1)) != 2 {
		t.Errorf("none: %d, %+v", e, f.Flows(0))
	}
	if e := f.Install(63, many[:api.MaxRules]); e != api.OK || len(f.Flows(63)) != api.MaxRules {
		t.Errorf("as many as may be: %d, %d flows", e, len(f.Flows(63)))
	}
}

// P23.3: flows are in the order that programs have them.
func TestFlows(t *testing.T) {
	l := []api.Flow{always(9, output(1)), {Table: 2, Priority: 5}, {Table: 2, Priority: 7, Acts: []api.Act{goTo(9)}}, always(0, goTo(2))}
	f := fabricOf(t, 1, nil, programs{4: l})
	want := []api.Flow{l[3], l[2], l[1], l[0]}
	if !slices.EqualFunc(f.Flows(4), want, dpath.Same) {
		t.Errorf("%+v", f.Flows(4))
	}
	for _, host := range []int{-1, 64, 5} {
		if len(f.Flows(host)) != 0 {
			t.Errorf("host %d: %+v", host, f.Flows(host))
		}
	}
}

// P23.1: places that may be, and that may not, behind which the old ones stay.
func TestPlaces(t *testing.T) {
	a := api.Place{Name: "a", Key: 1, Dp: 1, Host: 1}
	for what, x := range map[string]struct {
		l    []api.Place
		want api.Errno
	}{
		"none":              {nil, api.OK},
		"one":               {[]api.Place{a}, api.OK},
		"all least":         {[]api.Place{{Name: "x"}}, api.OK},
		"without a name":    {[]api.Place{{Key: 3}}, api.OK},
		"all greatest":      {[]api.Place{{Name: "x", Key: 65535, Dp: 1<<24 - 1, Host: 63}}, api.OK},
		"one host, one Dp":  {[]api.Place{a, {Name: "b", Key: 2, Dp: 1, Host: 1}}, api.OK},
		"a Key":             {[]api.Place{a, {Name: "x", Key: 65536}}, api.ErrArg},
		"a Key below 0":     {[]api.Place{{Name: "x", Key: -1}}, api.ErrArg},
		"a Dp":              {[]api.Place{{Name: "x", Dp: 1 << 24}}, api.ErrArg},
		"a Dp below 0":      {[]api.Place{{Name: "x", Dp: -1}, a}, api.ErrArg},
		"a Host":            {[]api.Place{{Name: "x", Host: 64}}, api.ErrArg},
		"a Host below 0":    {[]api.Place{a, {Name: "x", Host: -1}}, api.ErrArg},
		"two of one Name":   {[]api.Place{a, {Name: "b", Key: 2}, {Name: "a", Key: 3}}, api.ErrArg},
		"two of one Key":    {[]api.Place{a, {Name: "b", Key: 2}, {Name: "c", Key: 1}}, api.ErrArg},
		"one twice":         {[]api.Place{a, a}, api.ErrArg},
		"names in one case": {[]api.Place{a, {Name: "A", Key: 2}}, api.OK},
	} {
		f := fabricOf(t, 1, []api.Place{{Name: "old", Key: 9}}, nil)
		if e := f.Places(x.l); e != x.want {
			t.Errorf("%s: %d, not %d", what, e, x.want)
		}
		if e := inject(f, "old", nil).e; (e == api.OK) != (x.want != api.OK) {
			t.Errorf("%s: of the old place: %d", what, e)
		}
		for _, p := range x.l {
			if e := inject(f, p.Name, nil).e; (e == api.OK) != (x.want == api.OK) {
				t.Errorf("%s: of %q: %d", what, p.Name, e)
			}
		}
	}
}

// P23.3: the clock of each host goes on, of those without a program too, or none does.
func TestTick(t *testing.T) {
	f := fabricOf(t, 4, two(), programs{0: {always(0, look(0), commit(0), output(1))}})
	inject(f, "a", printed(t, udp(1, 2, 3, 4)))
	if c := f.Conns(0, 1); len(c) != 1 || c[0].Expires != 30 {
		t.Fatalf("%+v", c)
	}
	for _, n := range []int{-1, math.MinInt, 1 << 31, math.MaxInt} {
		if e := f.Tick(n); e != api.ErrArg || len(f.Conns(0, 1)) != 1 {
			t.Errorf("by %d: %d, %+v", n, e, f.Conns(0, 1))
		}
	}
	for range 3 {
		if e := f.Tick(0); e != api.OK {
			t.Errorf("by 0: %d", e)
		}
	}
	if e := f.Tick(29); e != api.OK || len(f.Conns(0, 1)) != 1 {
		t.Errorf("by 29: %d, %+v", e, f.Conns(0, 1))
	}
	// The host 9 has no program, but its clock says 29, too: what ends at 30 is taken there till then.
	if n := f.Carry(1, 0, 9); n != 1 {
		t.Errorf("carried: %d", n)
	}
	if e := f.Tick(1); e != api.OK || len(f.Conns(9, 1)) != 0 {
		t.Errorf("by 1 more: %d, %+v", e, f.Conns(9, 1))
	}
	// A program that comes later finds a clock that went on all the while.
	if e := f.Install(1, []api.Flow{always(0, look(0), commit(0), output(2))}); e != api.OK {
		t.Fatal(e)
	}
	inject(f, "b", printed(t, udp(1, 2, 3, 4)))
	if c := f.Conns(1, 2); len(c) != 1 || c[0].Expires != 60 {
		t.Errorf("%+v", c)
	}
	if e := f.Tick(math.MaxInt32); e != api.OK || len(f.Conns(1, 2)) != 0 {
		t.Errorf("by as much as may be: %d", e)
	}
}

// P23.3: what is carried, what is not, and what becomes of it.
func TestCarry(t *testing.T) {
	// Host h has a connection from each n to 9, in the zones 1 and 2.
	fill := func(f *fabric.Fabric, from ...uint32) {
		for _, n := range from {
			inject(f, "a", printed(t, udp(n, 9, 1, 2)))
		}
	}
	both := []api.Flow{always(0, clone(look(0), commit(0)), set(api.OutPort, 2, all16), look(1), commit(1))}
	f := fabricOf(t, 3, []api.Place{{Name: "a", Key: 1}}, programs{0: both})
	fill(f, 3, 1, 2)
	had := f.Conns(0, 1)
	if len(had) != 3 || len(f.Conns(0, 2)) != 3 || had[0].Orig.Src != 1 {
		t.Fatalf("%+v", had)
	}
	for _, x := range [][3]int{{1, 0, 0}, {1, 0, -1}, {1, 0, 64}, {1, -1, 0}, {1, 64, 0}, {1, 64, 64}, {-1, 0, 1}, {65536, 0, 1}, {3, 0, 1}, {1, 1, 0}} {
		if n := f.Carry(x[0], x[1], x[2]); n != 0 || len(f.Conns(0, 1)) != 3 {
			t.Errorf("%v: %d, %+v", x, n, f.Conns(0, 1))
		}
	}
	if n := f.Carry(1, 0, 63); n != 3 || len(f.Conns(0, 1)) != 0 || len(f.Conns(0, 2)) != 3 || !slices.Equal(f.Conns(63, 1), had) {
		t.Errorf("%d, %+v, %+v", n, f.Conns(0, 1), f.Conns(63, 1))
	}
	// Two are there, of which one is known already: there is room for one more, the first one that is not known.
	f.Empty(63, 1)
	fill(f, 5, 6)
	if n := f.Carry(1, 0, 63); n != 2 {
		t.Errorf("%d", n)
	}
	fill(f, 7, 4, 5)
	if n := f.Carry(1, 0, 63); n != 1 || len(f.Conns(0, 1)) != 0 {
		t.Errorf("into a zone that is full: %d, %+v", n, f.Conns(0, 1))
	}
	var from []uint32
	for _, c := range f.Conns(63, 1) {
		from = append(from, c.Orig.Src)
	}
	if !slices.Equal(from, []uint32{4, 5, 6}) {
		t.Errorf("from %v", from)
	}
}

// P23.3: a zone is emptied, and no other one.
func TestEmpty(t *testing.T) {
	f := fabricOf(t, 9, two(), programs{0: {always(0, look(0), commit(0))}, 1: {always(0, look(0), commit(0))}})
	for n := range uint32(4) {
		inject(f, "a", printed(t, udp(n+1, 9, 1, 2)))
		inject(f, "b", printed(t, udp(n+1, 9, 1, 2)))
	}
	for _, x := range [][2]int{{-1, 1}, {64, 1}, {0, 2}, {1, 1}, {0, -1}, {0, 65536}, {2, 1}} {
		if n := f.Empty(x[0], x[1]); n != 0 {
			t.Errorf("%v: %d", x, n)
		}
		if c := f.Conns(x[0], x[1]); len(c) != 0 {
			t.Errorf("%v: %+v", x, c)
		}
	}
	if n := f.Empty(0, 1); n != 4 || len(f.Conns(0, 1)) != 0 || len(f.Conns(1, 2)) != 4 {
		t.Errorf("%d, %+v, %+v", n, f.Conns(0, 1), f.Conns(1, 2))
	}
	if n := f.Empty(0, 1); n != 0 {
		t.Errorf("once more: %d", n)
	}
}

// P23.3: a Fork is the same, and goes its own way.
func TestFork(t *testing.T) {
	l := programs{0: {always(0, look(0), commit(0), tunnel(1))}, 1: {always(10, set(api.OutPort, 2, all16), look(1), commit(1), output(2))}}
	f := fabricOf(t, 3, two(), l)
	frame := func(n int) []byte { return printed(t, udp(uint32(n), 9, 1, 2)) }
	inject(f, "a", frame(1))
	f.Tick(10)
	g := f.Fork()
	same := func(what string, f, g *fabric.Fabric) {
		t.Helper()
		for host := range 3 {
			for zone := range 3 {
				if !slices.Equal(f.Conns(host, zone), g.Conns(host, zone)) {
					t.Errorf("%s: zone %d of host %d: %+v, %+v", what, zone, host, f.Conns(host, zone), g.Conns(host, zone))
				}
			}
			if !slices.EqualFunc(f.Flows(host), g.Flows(host), dpath.Same) {
				t.Errorf("%s: host %d: %+v, %+v", what, host, f.Flows(host), g.Flows(host))
			}
		}
	}
	same("at first", f, g)
	kept := f.Fork()
	x, y := inject(f, "a", frame(2)), inject(g, "a", frame(2))
	if !slices.Equal(x.out, y.out) || !slices.Equal(x.wires, y.wires) || x.goes != y.goes || len(x.out) != 1 {
		t.Errorf("%+v, %+v", x, y)
	}
	same("behind a frame each", f, g)
	// All that can change does, on one side.
	inject(g, "a", frame(3))
	g.Tick(25)
	g.Install(0, nil)
	g.Install(2, []api.Flow{always(0, output(7))})
	g.Places([]api.Place{{Name: "c", Key: 7, Host: 2}})
	g.Carry(2, 1, 2)
	g.Empty(0, 1)
	if len(f.Conns(0, 1)) != 2 || len(f.Conns(1, 2)) != 2 || len(f.Conns(2, 2)) != 0 || len(f.Flows(0)) != 1 || len(f.Flows(2)) != 0 {
		t.Errorf("the other one changed, too")
	}
	if inject(f, "c", nil).e != api.ErrPort || inject(f, "a", nil).e != api.OK || inject(g, "a", nil).e != api.ErrPort {
		t.Errorf("places are shared")
	}
	if len(kept.Conns(0, 1)) != 1 {
		t.Errorf("%+v", kept.Conns(0, 1))
	}
	inject(kept, "a", frame(2))
	same("each for itself", f, kept)
	// The room is the same, too.
	for n := range 9 {
		inject(kept, "a", frame(n+10))
	}
	if len(kept.Conns(0, 1)) != 3 {
		t.Errorf("%d connections", len(kept.Conns(0, 1)))
	}
}

// P23.3, R1: of a nil Fabric, and of one that no call made.
func TestNone(t *testing.T) {
	for what, f := range map[string]*fabric.Fabric{"nil": nil, "no call's": {}} {
		if f.Install(0, nil) != api.ErrClosed || f.Install(99, nil) != api.ErrClosed || f.Places(nil) != api.ErrClosed || f.Places([]api.Place{{Key: -1}}) != api.ErrClosed {
			t.Errorf("%s: Install, Places", what)
		}
		if x := inject(f, "a", nil); len(x.out) != 0 || len(x.wires) != 0 || x.goes != 0 || x.e != api.ErrClosed {
			t.Errorf("%s: %+v", what, x)
		}
		if f.Tick(1) != api.ErrClosed || f.Tick(-1) != api.ErrClosed {
			t.Errorf("%s: Tick", what)
		}
		if len(f.Conns(0, 0)) != 0 || f.Carry(0, 0, 1) != 0 || f.Empty(0, 0) != 0 || len(f.Flows(0)) != 0 || f.Fork() != nil {
			t.Errorf("%s: there is something", what)
		}
	}
}

// R3: what is handed in may be changed, and so may what is answered.
func TestApart(t *testing.T) {
	places := two()
	flows := []api.Flow{when(0, []api.Term{term(api.InPort, 1, all16)}, clone(output(1)), tunnel(1))}
	f := fabricOf(t, 2, places, programs{0: flows, 1: {always(10, output(2))}})
	frame := printed(t, plain("body"))
	want := inject(f, "a", frame)
	kept := slices.Clone(frame)
	places[0], places[1] = api.Place{}, api.Place{}
	flows[0].Terms[0].Value = 9
	flows[0].Acts[0].Acts[0].Port = 9
	flows[0].Acts[1].Port = 9
	x := inject(f, "a", frame)
	clear(x.out[:cap(x.out)])
	clear(x.wires[:cap(x.wires)])
	got := f.Flows(0)
	got[0].Terms[0].Value = 8
	got[0].Acts[0].Acts[0].Port = 8
	if !slices.Equal(frame, kept) {
		t.Errorf("the frame is another one")
	}
	clear(frame)
	for range 2 {
		if x := inject(f, "a", kept); !slices.Equal(x.out, want.out) || !slices.Equal(x.wires, want.wires) || len(x.out) != 2 {
			t.Errorf("%+v, not %+v", x, want)
		}
	}
}
