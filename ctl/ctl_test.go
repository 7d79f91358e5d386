package ctl_test

import (
	"fmt"
	"math"
	"slices"
	"testing"

	"skein/api"
	"skein/ctl"
	"skein/dpath"
	"skein/keys"
	"skein/lower"
	"skein/nbdb"
)

// lan is a switch with two VIFs on two hosts that remembers what UDP comes in at a, and what goes out at b.
func lan() []api.Row {
	return []api.Row{
		sw("s"), vif("a", "s", 0x0a, 1), vif("b", "s", 0x0b, 2), bind("a", 0), bind("b", 1),
		acl("s", false, 1, "inport == a && udp", api.AclRelated), acl("s", true, 1, "outport == b && udp", api.AclRelated),
	}
}

// bare is a switch with two VIFs, and nothing else.
func bare() []api.Row {
	return []api.Row{sw("s"), vif("a", "s", 0x0a, 1), vif("b", "s", 0x0b, 2)}
}

func keysOf(t *testing.T, rows []api.Row) api.Keys {
	t.Helper()
	k, e := keys.Update(api.Keys{}, rows)
	if e != api.OK {
		t.Fatalf("keys: %d", e)
	}
	return k
}

// P25.1: rooms that fabric.New takes and refuses; a new one has nothing.
func TestNew(t *testing.T) {
	for room, want := range map[int]api.Errno{1: api.OK, api.MaxZone: api.OK, 0: api.ErrArg, -1: api.ErrArg, api.MaxZone + 1: api.ErrArg, math.MaxInt: api.ErrArg, math.MinInt: api.ErrArg} {
		c, e := ctl.New(room)
		if e != want || (c != nil) != (want == api.OK) {
			t.Errorf("%d: %v, %d", room, c != nil, e)
		}
	}
	c, _ := ctl.New(1)
	if len(c.Rows()) != 0 || !sameKeys(c.Keys(), api.Keys{}) || len(c.Conns("")) != 0 || len(c.Wires()) != 0 || c.Goes() != 0 {
		t.Errorf("a new one: %+v, %+v", c.Rows(), c.Keys())
	}
	for host, l := range programs(c) {
		if len(l) != 0 {
			t.Errorf("host %d has %d flows", host, len(l))
		}
	}
	if l, e := c.Inject("", nil); len(l) != 0 || e != api.ErrPort {
		t.Errorf("%+v, %d", l, e)
	}
}

// P25.1: a zone has room for so many, and what is full drops.
func TestRoom(t *testing.T) {
	for _, room := range []int{1, 3} {
		b := newBoth(t, room, lan()...)
		for i := range uint32(5) {
			p := udp(0x0a, 0x0b, 100+i, 2, 1, 2)
			if got := b.inject(t, "a", printed(t, p)); (len(got) == 1) != (int(i) < room) {
				t.Errorf("room %d: the connection %d: %s", room, i, tell(got))
			}
		}
		// A full zone moves as a whole, and is full there.
		b.change(t, adds(bind("a", 5), bind("b", 5))...)
		if len(b.Conns("a")) != room || len(b.Conns("b")) != room {
			t.Errorf("room %d: %v, %v", room, b.Conns("a"), b.Conns("b"))
		}
		b.gives(t, "full", "a", udp(0x0a, 0x0b, 99, 2, 1, 2), 0)
		b.gives(t, "known", "a", udp(0x0a, 0x0b, 100, 2, 1, 2), 0, out{"b", udp(0x0a, 0x0b, 100, 2, 1, 2)})
		b.tick(t, api.CtLife)
		b.gives(t, "room again", "a", udp(0x0a, 0x0b, 99, 2, 1, 2), 0, out{"b", udp(0x0a, 0x0b, 99, 2, 1, 2)})
	}
}

// P25.1: transactions that are refused, behind which all is as before: rows, keys, programs, connections, places.
func TestRefused(t *testing.T) {
	b := newBoth(t, 4, lan()...)
	b.gives(t, "remembered", "a", udp(0x0a, 0x0b, 1, 2, 1, 2), 1, out{"b", udp(0x0a, 0x0b, 1, 2, 1, 2)})
	rows, k, flows, goes := b.Rows(), b.Keys(), programs(b.Ctl), b.Goes()
	long := make([]api.Row, api.MaxRows)
	for i := range long {
		long[i] = sw(fmt.Sprint("x", i))
	}
	for what, x := range map[string]struct {
		l    []api.Change
		want api.Errno
		at   int
	}{
		"no such row":          {append(dels(bind("a", 0)), dels(bind("c", 0))...), api.ErrNone, 1},
		"too many":             {adds(long...), api.ErrFull, api.MaxRows},
		"a wrong row":          {append(dels(bind("a", 0)), adds(sw(""))...), api.ErrRow, 2},
		"a wrong host":         {adds(bind("a", api.MaxHosts)), api.ErrRow, 1},
		"a host below 0":       {adds(bind("a", 7), bind("b", -1)), api.ErrRow, 2},
		"no owner":             {adds(vif("c", "t", 0x0c, 3)), api.ErrOwner, 1},
		"a link is bound":      {adds(router("r"), routerPort("r1", "r", 9, 9, 24), link("l", "s", "r1"), bind("l", 0)), api.ErrOwner, 4},
		"two Macs":             {adds(sw("t"), bind("b", 3), vif("c", "s", 0x0a, 3)), api.ErrClash, 3},
		"an ACL":               {adds(acl("s", false, 2, "reg0 == 1", api.AclDrop)), api.ErrAcl, 1},
		"a bind of no VIF":     {dels(vif("a", "s", 0, 0)), api.ErrOwner, 1},
		"ports without switch": {dels(sw("s")), api.ErrOwner, 1},
		"the first of several": {append(dels(sw("x")), adds(sw(""))...), api.ErrNone, 0},
	} {
		d, e, at := b.Apply(x.l)
		if d != (api.Delta{}) || e != x.want || at != x.at {
			t.Errorf("%s: %+v, %d at %d, not %d at %d", what, d, e, at, x.want, x.at)
		}
		if !slices.EqualFunc(b.Rows(), rows, nbdb.Same) || !sameKeys(b.Keys(), k) || len(b.Conns("a")) != 1 || len(b.Conns("b")) != 1 || b.Goes() != goes {
			t.Errorf("%s: %+v, %+v, %+v, %+v", what, b.Rows(), b.Keys(), b.Conns("a"), b.Conns("b"))
		}
		for host, l := range programs(b.Ctl) {
			if !slices.EqualFunc(l, flows[host], dpath.Same) {
				t.Errorf("%s: host %d has another program", what, host)
			}
		}
		f := b.Fork()
		if got, e := f.Inject("b", printed(t, plain(0x0b, 0x0a))); len(got) != 1 || e != api.OK || len(f.Wires()) != 1 || f.Wires()[0].To != 0 {
			t.Errorf("%s: %s, %d, %+v", what, tell(got), e, f.Wires())
		}
	}
	b.isRight(t)
}

// P25.1: rows of which a host's program would have more flows than there may be are refused, as a whole: P25.3 could not
// hold. Where no host is used there is no such program.
func TestTooManyFlows(t *testing.T) {
	rows := append(bare(), router("r"), bind("a", 3))
	for i := range 253 {
		rows = append(rows, routerPort(fmt.Sprint("r", i), "r", 0x100+uint64(i), uint32(i+1)<<8, 24))
	}
	c, _ := ctl.New(2)
	apply := func(what string, want api.Errno, flows int, l ...api.Change) {
		t.Helper()
		count, k, at := len(c.Rows()), c.Keys(), 0
		d, e, place := c.Apply(l)
		if want != api.OK {
			at = len(l)
			if d != (api.Delta{}) || len(c.Rows()) != count || !sameKeys(c.Keys(), k) {
				t.Errorf("%s: %+v, %d rows, not %d", what, d, len(c.Rows()), count)
			}
		}
		if e != want || place != at || len(c.Program(3)) != flows {
			t.Fatalf("%s: %d at %d, %d flows", what, e, place, len(c.Program(3)))
		}
	}
	apply("few", api.OK, len(lower.Program(rows, keysOf(t, rows), 3)), adds(rows...)...)
	// Each route is one flow more.
	var routes []api.Row
	for i := range api.MaxRules - len(c.Program(3)) {
		routes = append(routes, route("r", addr(20, 0, 0, 0)+uint32(i), 32, 1, "r0"))
	}
	more := route("r", addr(30, 0, 0, 0), 32, 1, "r0")
	apply("as many as there may be", api.OK, api.MaxRules, adds(routes...)...)
	apply("one more, and a move", api.ErrFull, api.MaxRules, adds(more, bind("a", 4), sw("t"))...)
	apply("no host is used", api.OK, 0, append(dels(bind("a", 3)), adds(more)...)...)
	apply("one is used", api.ErrFull, 0, adds(bind("a", 3))...)
	if _, e := c.Inject("a", printed(t, plain(0x0a, 0x0b))); e != api.ErrPort {
		t.Errorf("a place: %d", e)
	}
}

// P25.1: what is told of transactions, in their order: hosts that come to be used, and are used no more.
func TestDelta(t *testing.T) {
	b := newBoth(t, 4)
	for _, x := range []struct {
		what string
		l    []api.Change
		want api.Delta
		size map[int]int // of the hosts that have programs
	}{
		{"nothing", nil, api.Delta{}, nil},
		{"no VIF is bound", adds(bare()...), api.Delta{}, nil},
		{"one is bound", adds(bind("a", 0)), api.Delta{Added: 25 + 2, Hosts: 1}, map[int]int{0: 27}},
		{"told again", adds(bind("a", 0)), api.Delta{}, map[int]int{0: 27}},
		{"both are bound", adds(bind("b", 1)), api.Delta{Added: 1 + 28, Hosts: 2}, map[int]int{0: 28, 1: 28}},
		{"all told again", adds(append(bare(), bind("a", 0), bind("b", 1))...), api.Delta{}, map[int]int{0: 28, 1: 28}},
		{"no change", nil, api.Delta{}, map[int]int{0: 28, 1: 28}},
		{"the second one to the first host", adds(bind("b", 0)), api.Delta{Added: 2, Removed: 28 + 1, Hosts: 2}, map[int]int{0: 29}},
		{"back again", adds(bind("b", 1)), api.Delta{Added: 1 + 28, Removed: 2, Hosts: 2}, map[int]int{0: 28, 1: 28}},
		{"to the last host", adds(bind("b", 63)), api.Delta{Added: 1 + 28, Removed: 1 + 28, Hosts: 3}, map[int]int{0: 28, 63: 28}},
		{"they change places", adds(bind("a", 63), bind("b", 0)), api.Delta{Added: 2 * 3, Removed: 2 * 3, Hosts: 2}, map[int]int{0: 28, 63: 28}},
		{"another switch", adds(sw("t")), api.Delta{Added: 2 * 13, Hosts: 2}, map[int]int{0: 41, 63: 41}},
		{"it goes", dels(sw("t")), api.Delta{Removed: 2 * 13, Hosts: 2}, map[int]int{0: 28, 63: 28}},
		{"goes and comes in one", append(dels(bind("a", 0), bind("b", 0)), adds(bind("b", 0), bind("a", 63))...), api.Delta{}, map[int]int{0: 28, 63: 28}},
		{"a rule", adds(acl("s", false, 7, "udp", api.AclDrop)), api.Delta{Added: 2, Hosts: 2}, map[int]int{0: 29, 63: 29}},
		{"another rule in its place", adds(acl("s", false, 7, "udp", api.AclAllow)), api.Delta{Added: 2, Removed: 2, Hosts: 2}, map[int]int{0: 29, 63: 29}},
		{"one is bound no more", dels(bind("b", 0)), api.Delta{Removed: 29 + 1, Hosts: 2}, map[int]int{63: 28}},
		{"nobody is", dels(bind("a", 0)), api.Delta{Removed: 28, Hosts: 1}, nil},
		{"and all goes", dels(append(bare(), acl("s", false, 7, "", 0))...), api.Delta{}, nil},
	} {
		if d := b.change(t, x.l...); d != x.want {
			t.Errorf("%s: %+v, not %+v", x.what, d, x.want)
		}
		for host, l := range programs(b.Ctl) {
			if len(l) != x.size[host] {
				t.Errorf("%s: host %d has %d flows, not %d", x.what, host, len(l), x.size[host])
			}
		}
	}
}

// P25.1: the keys stay with their names, as keys.Update has it.
func TestKeys(t *testing.T) {
	b := newBoth(t, 4, lan()...)
	k := b.Keys()
	b.change(t, append(dels(bind("a", 0), vif("a", "s", 0, 0), acl("s", false, 1, "", 0)), adds(sw("r"), vif("c", "r", 5, 5), bind("c", 0))...)...)
	want, _ := keys.Update(k, b.Rows())
	if !sameKeys(b.Keys(), want) || !slices.Equal(want.Ports, []api.Key{{Name: "b", Num: 2}, {Name: "c", Num: 1}}) {
		t.Errorf("%+v", b.Keys())
	}
}

// P25.1: what becomes of connections as VIFs move, are bound no more, go, and come again.
func TestZones(t *testing.T) {
	a, c := vif("a", "s", 0x0a, 1), vif("c", "s", 0x0c, 3)
	rule := acl("s", false, 1, "inport == a && udp", api.AclRelated)
	for what, x := range map[string]struct {
		l      [][]api.Change
		ca, cb int
	}{
		"nothing":                    {nil, 1, 1},
		"to another host":            {[][]api.Change{adds(bind("a", 9))}, 1, 1},
		"and back":                   {[][]api.Change{adds(bind("a", 9)), adds(bind("a", 0))}, 1, 1},
		"to the other one's host":    {[][]api.Change{adds(bind("a", 1))}, 1, 1},
		"they change places":         {[][]api.Change{adds(bind("a", 1), bind("b", 0))}, 1, 1},
		"and once more":              {[][]api.Change{adds(bind("a", 1), bind("b", 0)), adds(bind("a", 0), bind("b", 1))}, 1, 1},
		"in a ring":                  {[][]api.Change{adds(bind("a", 63), bind("b", 0)), adds(bind("a", 1), bind("b", 63)), adds(bind("a", 0), bind("b", 1))}, 1, 1},
		"bound no more":              {[][]api.Change{dels(bind("a", 0))}, 0, 1},
		"unbound, and bound again":   {[][]api.Change{dels(bind("a", 0)), adds(bind("a", 0))}, 0, 1},
		"unbound, bound elsewhere":   {[][]api.Change{dels(bind("a", 0)), adds(bind("a", 4)), adds(bind("a", 0))}, 0, 1},
		"moved, unbound, and back":   {[][]api.Change{adds(bind("a", 4)), dels(bind("a", 0)), adds(bind("a", 4))}, 0, 1},
		"unbound, and bound at once": {[][]api.Change{append(dels(bind("a", 0)), adds(bind("a", 3))...)}, 1, 1},
		"both, and back":             {[][]api.Change{dels(bind("a", 0), bind("b", 0)), adds(bind("a", 0), bind("b", 1))}, 0, 0},
		"another Mac":                {[][]api.Change{adds(vif("a", "s", 0x1a, 1))}, 1, 1},
		"goes, and comes again":      {[][]api.Change{dels(bind("a", 0), a, rule), adds(a, bind("a", 0), rule)}, 0, 1},
		"goes, and comes at once":    {[][]api.Change{append(dels(bind("a", 0), a), adds(a, bind("a", 5))...)}, 1, 1},
		"into another switch":        {[][]api.Change{append(dels(rule), adds(sw("t"), vif("a", "t", 0x0a, 1), acl("s", false, 1, "udp", api.AclRelated))...)}, 1, 1},
		"rules go":                   {[][]api.Change{dels(rule, acl("s", true, 1, "", 0))}, 1, 1},
		"another one comes":          {[][]api.Change{adds(c, bind("c", 0))}, 1, 1},
		// c gets a's key.
		"another one for a":          {[][]api.Change{append(dels(bind("a", 0), a, rule), adds(c, bind("c", 0))...)}, 0, 1},
		"and a, with another key":    {[][]api.Change{append(dels(bind("a", 0), a, rule), adds(c, bind("c", 0))...), adds(a, bind("a", 0))}, 0, 1},
		"another one, on b's host":   {[][]api.Change{append(dels(bind("a", 0), a, rule), adds(c, bind("c", 1), bind("b", 0))...)}, 0, 1},
		"a link in a's place":        {[][]api.Change{append(dels(bind("a", 0)), adds(router("r"), routerPort("r1", "r", 9, 9, 24), link("a", "s", "r1"))...)}, 0, 1},
		"a refused one lies between": {[][]api.Change{append(dels(bind("a", 0)), adds(bind("z", 0))...), adds(bind("a", 8))}, 1, 1},
		"with time":                  {[][]api.Change{adds(bind("a", 8), sw("z"))}, 1, 1},
	} {
		b := newBoth(t, 4, lan()...)
		b.gives(t, what, "a", udp(0x0a, 0x0b, 1, 2, 1, 2), 1, out{"b", udp(0x0a, 0x0b, 1, 2, 1, 2)})
		b.tick(t, 5)
		for _, l := range x.l {
			b.apply(t, l...)
		}
		if len(b.Conns("a")) != x.ca || len(b.Conns("b")) != x.cb {
			t.Errorf("%s: %+v, %+v", what, b.Conns("a"), b.Conns("b"))
		}
		for _, port := range []string{"c", "z", "s", ""} {
			if len(b.Conns(port)) != 0 {
				t.Errorf("%s: %q: %+v", what, port, b.Conns(port))
			}
		}
		// They end when they would have ended.
		b.tick(t, api.CtLife-6)
		if len(b.Conns("a")) != x.ca || len(b.Conns("b")) != x.cb {
			t.Errorf("%s: a tick ahead: %+v, %+v", what, b.Conns("a"), b.Conns("b"))
		}
		b.tick(t, 1)
		if len(b.Conns("a"))+len(b.Conns("b")) != 0 {
			t.Errorf("%s: behind it: %+v, %+v", what, b.Conns("a"), b.Conns("b"))
		}
	}
}

// P25.1: nothing is left of a VIF where it was: whoever comes there with its key has its own connections.
func TestNothingIsLeft(t *testing.T) {
	b := newBoth(t, 4, append(lan(), acl("s", false, 0, "inport == b", api.AclDrop))...)
	b.gives(t, "remembered", "a", udp(0x0a, 0x0b, 1, 2, 1, 2), 1, out{"b", udp(0x0a, 0x0b, 1, 2, 1, 2)})
	// At b's the drop rule is on the way in: only what is known passes.
	b.gives(t, "not known at b", "b", udp(0x0b, 0x0a, 2, 1, 3, 3), 0)
	b.gives(t, "known at b", "b", udp(0x0b, 0x0a, 2, 1, 2, 1), 1, out{"a", udp(0x0b, 0x0a, 2, 1, 2, 1)})
	b.change(t, adds(bind("b", 5))...)
	b.gives(t, "known elsewhere", "b", udp(0x0b, 0x0a, 2, 1, 2, 1), 1, out{"a", udp(0x0b, 0x0a, 2, 1, 2, 1)})
	b.change(t, dels(bind("b", 5))...)
	b.change(t, adds(bind("b", 1))...)
	b.gives(t, "not known any more", "b", udp(0x0b, 0x0a, 2, 1, 2, 1), 0)
	b.change(t, adds(bind("b", 5))...)
	b.gives(t, "nor where it was", "b", udp(0x0b, 0x0a, 2, 1, 2, 1), 0)
}

// P25.2: ErrPort, where there is no such bound VIF; it leaves what was told of the last frame.
func TestNoPort(t *testing.T) {
	rows := append(lan(), vif("c", "s", 0x0c, 3), router("r"), routerPort("r1", "r", 9, 9, 24), link("l", "s", "r1"))
	b := newBoth(t, 4, rows...)
	frame := printed(t, plain(0x0a, 0x0b))
	b.gives(t, "a frame", "a", plain(0x0a, 0x0b), 1, out{"b", plain(0x0a, 0x0b)})
	wires, goes := b.Wires(), b.Goes()
	if len(wires) != 1 || goes == 0 {
		t.Fatalf("%d wires, %d goes", len(wires), goes)
	}
	for _, port := range []string{"", "c", "l", "s", "r1", "A", "a ", "1"} {
		for _, x := range [][]byte{frame, nil, {1, 2}} {
			if l, e := b.Inject(port, x); len(l) != 0 || e != api.ErrPort {
				t.Errorf("%q: %s, %d", port, tell(l), e)
			}
		}
	}
	if !slices.Equal(b.Wires(), wires) || b.Goes() != goes {
		t.Errorf("behind ErrPort: %+v, %d", b.Wires(), b.Goes())
	}
	b.change(t, dels(bind("b", 0))...)
	if _, e := b.Inject("b", frame); e != api.ErrPort {
		t.Errorf("bound no more: %d", e)
	}
	if !slices.Equal(b.Wires(), wires) || b.Goes() != goes {
		t.Errorf("behind a transaction: %+v, %d", b.Wires(), b.Goes())
	}
	b.change(t, adds(bind("c", 1))...)
	if _, e := b.Inject("c", frame); e != api.OK {
		t.Errorf("bound: %d", e)
	}
}

// P25.2: Wires and Goes are those of the last frame, whatever became of it.
func TestWiresAndGoes(t *testing.T) {
	b := newBoth(t, 4, append(bare(), vif("c", "s", 0x0c, 3), bind("a", 0), bind("b", 0), bind("c", 1))...)
	told := func(what string, wires, goes int) {
		t.Helper()
		if len(b.Wires()) != wires || b.Goes() != goes {
			t.Errorf("%s: %d wires, %d goes", what, len(b.Wires()), b.Goes())
		}
	}
	told("none so far", 0, 0)
	b.inject(t, "a", printed(t, plain(0x0a, 0x0b)))
	// From table 0 by 1 to 9, by 10 to 13.
	told("on one host", 0, 9+4)
	b.inject(t, "a", printed(t, plain(0x0a, 0x0c)))
	// At the other host from table 10 on.
	told("to the other one", 1, 9+3)
	first := b.Wires()
	b.tick(t, 1)
	told("behind a tick", 1, 9+3)
	b.inject(t, "c", printed(t, plain(0x0c, everybody)))
	told("to all", 2, 8+2+3+3)
	b.inject(t, "b", printed(t, plain(0x0b, 0x0c)))
	told("from another one", 1, 9+3)
	if slices.Equal(first, b.Wires()) || first[0].From != 0 || first[0].To != 1 {
		t.Errorf("%+v and %+v", first, b.Wires())
	}
	b.inject(t, "a", printed(t, plain(0x0a, 0x77)))
	told("to nobody", 0, 8)
	b.inject(t, "a", printed(t, plain(0x0a, 0x0c)))
	for _, frame := range [][]byte{nil, {}, make([]byte, api.MinFrame-1), make([]byte, api.MaxFrame+1)} {
		b.inject(t, "a", printed(t, plain(0x0a, 0x0c)))
		told("ahead of bytes that are no frame", 1, 9+3)
		b.inject(t, "a", frame)
		told("bytes that are no frame", 0, 0)
	}
}

// P25.2: emissions are sorted by ports, then by bytes, not as hosts tell them.
func TestOrder(t *testing.T) {
	rows := []api.Row{sw("s")}
	for i, name := range []string{"b", "Z", "aa", "-", "a", "_", "9", "z"} {
		rows = append(rows, vif(name, "s", uint64(0x10+i), uint32(1+i)), bind(name, (i*5)%3))
	}
	b := newBoth(t, 4, rows...)
	got := b.inject(t, "aa", printed(t, plain(0x12, everybody)))
	var ports []string
	for _, e := range got {
		ports = append(ports, e.Port)
	}
	if !slices.Equal(ports, []string{"-", "9", "Z", "_", "a", "b", "z"}) {
		t.Errorf("%q", ports)
	}
}

// P25.2: the clock, and what it refuses.
func TestTick(t *testing.T) {
	b := newBoth(t, 4, lan()...)
	b.inject(t, "a", printed(t, udp(0x0a, 0x0b, 1, 2, 1, 2)))
	for _, n := range []int{-1, math.MinInt, math.MaxInt} {
		if e, want := b.Tick(n), b.world.Tick(n); e != want || e == api.OK {
			t.Errorf("Tick(%d): %d, not %d", n, e, want)
		}
	}
	b.tick(t, 0)
	b.tick(t, api.CtLife-1)
	if len(b.Conns("a")) != 1 || len(b.Conns("b")) != 1 {
		t.Errorf("%+v, %+v", b.Conns("a"), b.Conns("b"))
	}
	// The clock of hosts that are not used goes on, too.
	b.change(t, adds(bind("b", 40))...)
	b.tick(t, 1)
	if len(b.Conns("a"))+len(b.Conns("b")) != 0 {
		t.Errorf("%+v, %+v", b.Conns("a"), b.Conns("b"))
	}
	b.gives(t, "anew", "a", udp(0x0a, 0x0b, 1, 2, 1, 2), 1, out{"b", udp(0x0a, 0x0b, 1, 2, 1, 2)})
	if c := b.Conns("b"); len(c) != 1 || c[0].Expires != 2*api.CtLife {
		t.Errorf("%+v", c)
	}
}

// P25.2: hosts that there are not.
func TestNoHost(t *testing.T) {
	b := newBoth(t, 4, append(bare(), bind("a", 0), bind("b", 63))...)
	for _, host := range []int{-1, 64, 1, 62, math.MinInt, math.MaxInt} {
		if l := b.Program(host); len(l) != 0 {
			t.Errorf("host %d: %d flows", host, len(l))
		}
	}
	if len(b.Program(0)) != 28 || len(b.Program(63)) != 28 {
		t.Errorf("%d, %d flows", len(b.Program(0)), len(b.Program(63)))
	}
}

// state is all that a controller tells, as a text.
func state(c *ctl.Ctl) string {
	text := fmt.Sprintf("%+v %+v %+v %d", c.Rows(), c.Keys(), c.Wires(), c.Goes())
	for _, l := range programs(c) {
		text += fmt.Sprintf("%+v", l)
	}
	for _, k := range c.Keys().Ports {
		text += fmt.Sprintf("%+v", c.Conns(k.Name))
	}
	return text
}

// P25.2: a fork is the same, and neither of both tells what is done to the other one.
func TestFork(t *testing.T) {
	steps := map[string]func(c *ctl.Ctl){
		"rows":          func(c *ctl.Ctl) { c.Apply(adds(sw("t"), vif("c", "t", 5, 5), bind("c", 9))) },
		"a move":        func(c *ctl.Ctl) { c.Apply(adds(bind("a", 1), bind("b", 7))) },
		"bound no more": func(c *ctl.Ctl) { c.Apply(dels(bind("a", 0))) },
		"a frame":       func(c *ctl.Ctl) { c.Inject("a", printed(t, udp(0x0a, 0x0b, 7, 2, 1, 2))) },
		"no frame":      func(c *ctl.Ctl) { c.Inject("a", nil) },
		"ticks":         func(c *ctl.Ctl) { c.Tick(api.CtLife) },
		"all goes":      func(c *ctl.Ctl) { c.Apply(dels(c.Rows()...)) },
	}
	for what, step := range steps {
		b := newBoth(t, 4, lan()...)
		b.inject(t, "a", printed(t, udp(0x0a, 0x0b, 1, 2, 1, 2)))
		before := state(b.Ctl)
		f := b.Fork()
		if state(f) != before {
			t.Errorf("%s: the fork: %s\nnot %s", what, state(f), before)
		}
		step(f)
		if state(b.Ctl) != before || state(f) == before {
			t.Errorf("%s: the first one: %s\nnot %s", what, state(b.Ctl), before)
		}
		f = b.Fork()
		step(b.Ctl)
		if state(f) != before {
			t.Errorf("%s: the fork, behind: %s\nnot %s", what, state(f), before)
		}
		step(f)
		if state(f) != state(b.Ctl) {
			t.Errorf("%s: done to both: %s\nnot %s", what, state(f), state(b.Ctl))
		}
	}
	c, _ := ctl.New(3)
	f := c.Fork()
	if _, e, _ := f.Apply(adds(lan()...)); e != api.OK || len(c.Rows()) != 0 || len(f.Program(0)) == 0 {
		t.Errorf("of a new one: %d, %d rows", e, len(c.Rows()))
	}
}

// P25.2: of a nil one, and of one that no call made.
func TestNil(t *testing.T) {
	for _, c := range []*ctl.Ctl{nil, {}} {
		if d, e, at := c.Apply(adds(lan()...)); d != (api.Delta{}) || e != api.ErrClosed || at != 0 {
			t.Errorf("Apply: %+v, %d at %d", d, e, at)
		}
		if d, e, at := c.Apply(dels(sw("x"))); d != (api.Delta{}) || e != api.ErrClosed || at != 0 {
			t.Errorf("Apply: %+v, %d at %d", d, e, at)
		}
		if l, e := c.Inject("a", nil); len(l) != 0 || e != api.ErrClosed {
			t.Errorf("Inject: %+v, %d", l, e)
		}
		for _, n := range []int{-1, 0, 1} {
			if e := c.Tick(n); e != api.ErrClosed {
				t.Errorf("Tick(%d): %d", n, e)
			}
			if l := c.Program(n); len(l) != 0 {
				t.Errorf("Program(%d): %+v", n, l)
			}
		}
		if len(c.Conns("a")) != 0 || len(c.Rows()) != 0 || !sameKeys(c.Keys(), api.Keys{}) || len(c.Wires()) != 0 || c.Goes() != 0 || c.Fork() != nil {
			t.Errorf("%+v, %+v, %+v, %+v, %d, %v", c.Conns("a"), c.Rows(), c.Keys(), c.Wires(), c.Goes(), c.Fork())
		}
	}
}

// R3: what is handed in is neither changed nor kept; what is answered shares no memory with what is kept.
func TestApart(t *testing.T) {
	b := newBoth(t, 4)
	rows := append(lan(), vip("s", api.ProtoUdp, 9, 53, api.Way{Ip: 2, Port: 1}))
	l := adds(rows...)
	room := append(l, api.Change{Row: sw("behind")})
	b.change(t, room[:len(l)]...)
	frame := printed(t, udp(0x0a, 0x0b, 1, 2, 1, 2))
	kept := slices.Clone(frame)
	b.inject(t, "a", frame)
	before := state(b.Ctl)
	if !slices.Equal(frame, kept) || room[len(l)].Row.Name != "behind" || room[0].Row.Name != "s" || room[7].Row.Ways[0].Port != 1 {
		t.Errorf("what was handed in: %x, %+v", frame, room)
	}
	room[7].Row.Ways[0].Port = 7
	room[0].Row.Name = "x"
	for _, p := range [][]api.Row{b.Rows(), b.Rows()} {
		for i := range p {
			p[i].Name = "x"
			for j := range p[i].Ways {
				p[i].Ways[j] = api.Way{}
			}
		}
	}
	k := b.Keys()
	for _, l := range [][]api.Key{k.Switches, k.Ports} {
		l[0] = api.Key{}
		_ = append(l, api.Key{})
	}
	b.Wires()[0] = api.Wire{}
	b.Conns("a")[0] = api.Conn{}
	for _, f := range b.Program(0) {
		for i := range f.Terms {
			f.Terms[i] = api.Term{}
		}
		for i := range f.Acts {
			f.Acts[i] = api.Act{}
		}
	}
	if state(b.Ctl) != before {
		t.Errorf("%s\nnot %s", state(b.Ctl), before)
	}
	out := b.inject(t, "a", kept)
	out[0] = api.Emission{}
	b.isRight(t)
}
