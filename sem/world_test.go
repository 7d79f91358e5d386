package sem_test

import (
	"fmt"
	"math"
	"slices"
	"testing"

	"skein/api"
	"skein/keys"
	"skein/nbdb"
	"skein/sem"
)

// lan is a switch with two bound VIFs that remembers what UDP comes in at a, and what goes out at b.
func lan() []api.Row {
	return []api.Row{
		sw("s"), vif("a", "s", 0x0a, 1), vif("b", "s", 0x0b, 2), bind("a", 0), bind("b", 1),
		acl("s", false, 1, "inport == a && udp", api.AclRelated), acl("s", true, 1, "outport == b && udp", api.AclRelated),
	}
}

// P24.1: rooms that ct.New takes and refuses; a new World has nothing.
func TestNew(t *testing.T) {
	for room, want := range map[int]api.Errno{1: api.OK, 65536: api.OK, 0: api.ErrArg, -1: api.ErrArg, 65537: api.ErrArg, math.MaxInt: api.ErrArg, math.MinInt: api.ErrArg} {
		w, e := sem.New(room)
		if e != want || (w != nil) != (want == api.OK) {
			t.Errorf("%d: %v, %d", room, w != nil, e)
		}
	}
	w, _ := sem.New(1)
	if len(w.Rows()) != 0 || !sameKeys(w.Keys(), api.Keys{}) || len(w.Conns("")) != 0 {
		t.Errorf("a new one: %+v, %+v", w.Rows(), w.Keys())
	}
	if l, e := w.Inject("", nil); len(l) != 0 || e != api.ErrPort {
		t.Errorf("%+v, %d", l, e)
	}
}

// P24.1: a zone has room for so many, and what is full drops.
func TestRoom(t *testing.T) {
	for _, room := range []int{1, 3} {
		n := newPair(t, room, lan()...)
		for i := range uint32(5) {
			p := udp(0x0a, 0x0b, 100+i, 2, 1, 2)
			if got := n.inject(t, "a", printed(t, p)); (len(got) == 1) != (int(i) < room) {
				t.Errorf("room %d: the connection %d: %s", room, i, tell(got))
			}
		}
		if len(n.Conns("a")) != room || len(n.Conns("b")) != room {
			t.Errorf("room %d: %v, %v", room, n.conns("a"), n.conns("b"))
		}
		// What is known goes on; where the room is another one's, that one is asked alone.
		n.gives(t, "known", "a", udp(0x0a, 0x0b, 100, 2, 1, 2), out{"b", udp(0x0a, 0x0b, 100, 2, 1, 2)})
		n.gives(t, "full at b", "b", udp(0x0b, 0x0a, 2, 77, 1, 2), out{"a", udp(0x0b, 0x0a, 2, 77, 1, 2)})
	}
}

// P24.1: rows and keys behind transactions that are taken, and that are not.
func TestApply(t *testing.T) {
	n := newPair(t, 4, lan()...)
	n.gives(t, "remembered", "a", udp(0x0a, 0x0b, 1, 2, 1, 2), out{"b", udp(0x0a, 0x0b, 1, 2, 1, 2)})
	rows, k := n.Rows(), n.Keys()
	if !sameKeys(k, api.Keys{Switches: []api.Key{{Name: "s", Num: 1}}, Ports: []api.Key{{Name: "a", Num: 1}, {Name: "b", Num: 2}}}) {
		t.Errorf("%+v", k)
	}
	long := make([]api.Row, api.MaxRows)
	for i := range long {
		long[i] = sw(fmt.Sprint("x", i))
	}
	for what, x := range map[string]struct {
		l    []api.Change
		want api.Errno
		at   int
	}{
		"no such row":          {append(dels(bind("a", 0)), dels(bind("c", 0))...), api.ErrNone, 1},
		"too many":             {adds(long...), api.ErrFull, api.MaxRows},
		"a wrong row":          {append(dels(bind("a", 0)), adds(sw(""))...), api.ErrRow, 2},
		"no owner":             {adds(vif("c", "t", 0x0c, 3)), api.ErrOwner, 1},
		"a link is bound":      {adds(router("r"), routerPort("r1", "r", 9, 9, 24), link("l", "s", "r1"), bind("l", 0)), api.ErrOwner, 4},
		"two Macs":             {adds(sw("t"), vif("c", "s", 0x0a, 3)), api.ErrClash, 2},
		"an ACL":               {adds(acl("s", false, 2, "reg0 == 1", api.AclDrop)), api.ErrAcl, 1},
		"a bind of no VIF":     {dels(vif("a", "s", 0, 0)), api.ErrOwner, 1},
		"all goes but a port":  {dels(sw("s")), api.ErrOwner, 1},
		"the first of several": {append(dels(sw("x")), adds(sw(""))...), api.ErrNone, 0},
	} {
		if e, at := n.Apply(x.l); e != x.want || at != x.at {
			t.Errorf("%s: %d at %d, not %d at %d", what, e, at, x.want, x.at)
		}
		sameRows(t, what, n.World, rows)
		if !sameKeys(n.Keys(), k) || len(n.Conns("a")) != 1 || len(n.Conns("b")) != 1 {
			t.Errorf("%s: %+v, %+v, %+v", what, n.Keys(), n.Conns("a"), n.Conns("b"))
		}
		n.gives(t, what, "b", plain(0x0b, 0x0a), out{"a", plain(0x0b, 0x0a)})
	}
	if e, at := n.Apply(nil); e != api.OK || at != 0 {
		t.Errorf("no changes: %d at %d", e, at)
	}
	sameRows(t, "no changes", n.World, rows)
	// Keys stay with their names: s, which was the only one, is not the first one any more.
	n.change(t, append(dels(bind("a", 0), vif("a", "s", 0, 0), acl("s", false, 1, "", 0)), adds(sw("r"), vif("c", "r", 5, 5), vif("d", "r", 6, 6))...)...)
	want, _ := keys.Update(k, n.Rows())
	if !sameKeys(n.Keys(), want) || !slices.Equal(n.Keys().Switches, []api.Key{{Name: "r", Num: 2}, {Name: "s", Num: 1}}) || !slices.Equal(n.Keys().Ports, []api.Key{{Name: "b", Num: 2}, {Name: "c", Num: 1}, {Name: "d", Num: 3}}) {
		t.Errorf("%+v", n.Keys())
	}
	db := nbdb.New()
	db.Apply(adds(n.Rows()...))
	sameRows(t, "in order", n.World, db.Rows())
}

// P24.1: zones of VIFs that are bound no more are emptied, and no others.
func TestZones(t *testing.T) {
	a, b := vif("a", "s", 0x0a, 1), vif("b", "s", 0x0b, 2)
	rule := acl("s", false, 1, "inport == a && udp", api.AclRelated)
	for what, x := range map[string]struct {
		l      []api.Change
		again  []api.Change
		ca, cb int
	}{
		"nothing":                        {nil, nil, 1, 1},
		"to another host":                {adds(bind("a", 9)), nil, 1, 1},
		"to the other one's host":        {adds(bind("a", 1), bind("b", 0)), nil, 1, 1},
		"bound no more":                  {dels(bind("a", 0)), nil, 0, 1},
		"unbound, and bound again":       {dels(bind("a", 0)), adds(bind("a", 0)), 0, 1},
		"unbound, and bound at once":     {append(dels(bind("a", 0)), adds(bind("a", 3))...), nil, 1, 1},
		"both":                           {dels(bind("a", 0), bind("b", 0)), adds(bind("a", 0), bind("b", 0)), 0, 0},
		"another Mac":                    {adds(vif("a", "s", 0x1a, 1)), nil, 1, 1},
		"goes, and comes again":          {append(dels(bind("a", 0), a, rule), adds()...), adds(a, bind("a", 0), rule), 0, 1},
		"goes, and comes at once":        {append(dels(bind("a", 0), a), adds(a, bind("a", 0))...), nil, 1, 1},
		"into another switch":            {append(dels(rule), adds(sw("t"), vif("a", "t", 0x0a, 1), acl("s", false, 1, "udp", api.AclRelated))...), nil, 1, 1},
		"another one is unbound":         {dels(bind("b", 0)), nil, 1, 0},
		"rules go":                       {dels(rule, acl("s", true, 1, "", 0)), nil, 1, 1},
		"another one comes":              {adds(vif("c", "s", 0x0c, 3), bind("c", 0)), nil, 1, 1},
		"the other one goes, a is bound": {append(dels(bind("b", 0), b, acl("s", true, 1, "", 0)), adds(bind("a", 1))...), nil, 1, 0},
	} {
		n := newPair(t, 4, lan()...)
		n.gives(t, what, "a", udp(0x0a, 0x0b, 1, 2, 1, 2), out{"b", udp(0x0a, 0x0b, 1, 2, 1, 2)})
		if e, _ := n.Apply(append(dels(bind("a", 0), bind("b", 0)), dels(bind("x", 0))...)); e != api.ErrNone {
			t.Fatalf("%s: %d", what, e)
		}
		n.change(t, x.l...)
		n.sameConns(t)
		n.change(t, x.again...)
		n.sameConns(t)
		if len(n.Conns("a")) != x.ca || len(n.Conns("b")) != x.cb {
			t.Errorf("%s: %v, %v", what, n.conns("a"), n.conns("b"))
		}
	}
}

// P24.1: a VIF that gets the number of one that is gone gets none of its connections.
func TestZoneOfAnother(t *testing.T) {
	n := newPair(t, 4, lan()...)
	n.gives(t, "at first", "a", udp(0x0a, 0x0b, 1, 2, 1, 2), out{"b", udp(0x0a, 0x0b, 1, 2, 1, 2)})
	n.change(t, append(dels(bind("a", 0), vif("a", "s", 0, 0), acl("s", false, 1, "", 0)), adds(vif("c", "s", 0x0c, 3), bind("c", 0))...)...)
	if num, _ := keys.Find(n.Keys().Ports, "c"); num != 1 {
		t.Fatalf("c has %d", num)
	}
	n.sameConns(t)
	if len(n.Conns("c")) != 0 || len(n.Conns("a")) != 0 || len(n.Conns("b")) != 1 {
		t.Errorf("%v, %v, %v", n.conns("a"), n.conns("b"), n.conns("c"))
	}
}

// P24.2: the clock: what ct's Tick takes and refuses, and what it does.
func TestTick(t *testing.T) {
	n := newPair(t, 4, lan()...)
	p := udp(0x0a, 0x0b, 1, 2, 1, 2)
	n.gives(t, "at first", "a", p, out{"b", p})
	for _, bad := range []int{-1, 1 << 31, math.MaxInt, math.MinInt} {
		if e := n.Tick(bad); e != api.ErrArg || len(n.Conns("a")) != 1 {
			t.Errorf("by %d: %d", bad, e)
		}
	}
	n.tick(t, 0)
	n.tick(t, 29)
	if c := n.Conns("a"); len(c) != 1 || c[0].Expires != 30 || c[0].Zone != 1 {
		t.Errorf("%+v", c)
	}
	n.gives(t, "once more", "a", p, out{"b", p})
	if c := n.Conns("b"); len(c) != 1 || c[0].Expires != 59 || c[0].Zone != 2 {
		t.Errorf("%+v", c)
	}
	n.tick(t, 30)
	if len(n.Conns("a")) != 0 || len(n.Conns("b")) != 0 {
		t.Errorf("%v, %v", n.conns("a"), n.conns("b"))
	}
	n.tick(t, math.MaxInt32)
}

// P24.2: ports that are not bound, are links, are not there; of these nothing is told, whatever the bytes.
func TestNoPort(t *testing.T) {
	n := newPair(t, 4, append(lan(), vif("c", "s", 0x0c, 3), router("r"), routerPort("r1", "r", 9, 9, 24), link("l", "s", "r1"))...)
	for _, port := range []string{"c", "l", "r1", "r", "s", "", "A", "nobody"} {
		for _, b := range [][]byte{nil, {1, 2, 3}, printed(t, plain(0x0a, 0x0b))} {
			if l, e := n.Inject(port, b); len(l) != 0 || e != api.ErrPort {
				t.Errorf("%q: %s, %d", port, tell(l), e)
			}
		}
		if c := n.Conns(port); len(c) != 0 {
			t.Errorf("%q: %+v", port, c)
		}
	}
}

// P24.4: what can't be read changes nothing.
func TestUnreadable(t *testing.T) {
	n := newPair(t, 4, lan()...)
	frame := printed(t, udp(0x0a, 0x0b, 1, 2, 1, 2))
	for i := range frame {
		if l := n.inject(t, "a", frame[:i]); len(l) != 0 {
			t.Errorf("%d bytes: %s", i, tell(l))
		}
	}
	for _, i := range []int{14, 16, 24, 36, 38, 40, 45} {
		wrong := slices.Clone(frame)
		wrong[i] ^= 0x55
		if l := n.inject(t, "a", wrong); len(l) != 0 {
			t.Errorf("another byte at %d: %s", i, tell(l))
		}
	}
	if l := n.inject(t, "a", make([]byte, api.MaxFrame+1)); len(l) != 0 {
		t.Errorf("too long: %s", tell(l))
	}
	if len(n.Conns("a")) != 0 || len(n.Conns("b")) != 0 {
		t.Errorf("%v, %v", n.conns("a"), n.conns("b"))
	}
}

// P24.2: emissions are by rising Port, whatever the ports' kinds and hosts.
func TestOrder(t *testing.T) {
	var rows []api.Row
	rows = append(rows, sw("s"))
	for i, name := range []string{"z", "a10", "a1", "B", "-", "a", "_", "9"} {
		rows = append(rows, vif(name, "s", uint64(i+1), uint32(i+1)), bind(name, (i*5)%7))
	}
	n := newPair(t, 1, rows...)
	var ports []string
	for _, e := range n.inject(t, "a1", printed(t, plain(3, everybody))) {
		ports = append(ports, e.Port)
	}
	if !slices.Equal(ports, []string{"-", "9", "B", "_", "a", "a10", "z"}) {
		t.Errorf("%q", ports)
	}
}

// A Fork is the same, and goes its own way.
func TestFork(t *testing.T) {
	n := newPair(t, 2, lan()...)
	frame := func(from uint32) []byte { return printed(t, udp(0x0a, 0x0b, from, 2, 1, 2)) }
	n.inject(t, "a", frame(5))
	n.tick(t, 7)
	w := n.World
	g := w.Fork()
	same := func(what string, v, w *sem.World) {
		t.Helper()
		sameRows(t, what, v, w.Rows())
		if !sameKeys(v.Keys(), w.Keys()) {
			t.Errorf("%s: %+v, %+v", what, v.Keys(), w.Keys())
		}
		for _, port := range []string{"a", "b"} {
			if !slices.Equal(v.Conns(port), w.Conns(port)) {
				t.Errorf("%s: %+v, %+v", what, v.Conns(port), w.Conns(port))
			}
		}
	}
	same("at first", g, w)
	for _, from := range []uint32{6, 5, 7} {
		x, e := w.Inject("a", frame(from))
		y, f := g.Inject("a", frame(from))
		if !slices.Equal(x, y) || e != f {
			t.Errorf("%d: %s, %s", from, tell(x), tell(y))
		}
	}
	same("behind frames", g, w)
	kept := w.Fork()
	w.Tick(31)
	if e, _ := w.Apply(append(dels(bind("b", 0)), adds(sw("t"), vif("c", "t", 1, 1))...)); e != api.OK {
		t.Fatal(e)
	}
	same("as it was", g, kept)
	if len(g.Rows()) != 7 || len(g.Keys().Ports) != 2 || len(g.Conns("a")) != 2 || len(g.Conns("b")) != 2 {
		t.Errorf("the other one changed, too: %+v", g.Rows())
	}
	if l, e := g.Inject("a", frame(5)); len(l) != 1 || e != api.OK {
		t.Errorf("%s, %d", tell(l), e)
	}
	if l, e := w.Inject("a", frame(5)); len(l) != 0 || e != api.OK {
		t.Errorf("%s, %d", tell(l), e)
	}
	// A transaction in the Fork does not come to the one that it is of.
	if e, _ := g.Apply(dels(bind("a", 0))); e != api.OK || len(w.Conns("a")) != 1 || len(kept.Conns("a")) != 2 || len(g.Conns("a")) != 0 {
		t.Errorf("%d, %v, %v, %v", e, w.Conns("a"), kept.Conns("a"), g.Conns("a"))
	}
}

// P24.2, R1: of a nil World, and of one that no call made.
func TestNone(t *testing.T) {
	for what, w := range map[string]*sem.World{"nil": nil, "no call's": {}} {
		if e, at := w.Apply(adds(sw("s"))); e != api.ErrClosed || at != 0 {
			t.Errorf("%s: Apply: %d at %d", what, e, at)
		}
		if l, e := w.Inject("a", nil); len(l) != 0 || e != api.ErrClosed {
			t.Errorf("%s: Inject: %v, %d", what, l, e)
		}
		if w.Tick(1) != api.ErrClosed || w.Tick(-1) != api.ErrClosed {
			t.Errorf("%s: Tick", what)
		}
		if len(w.Conns("a")) != 0 || len(w.Rows()) != 0 || !sameKeys(w.Keys(), api.Keys{}) || w.Fork() != nil {
			t.Errorf("%s: there is something", what)
		}
	}
}

// R3: what is handed in may be changed, and so may what is answered.
func TestApart(t *testing.T) {
	w, _ := sem.New(4)
	ways := []api.Way{{Ip: 2, Port: 5}}
	l := adds(append(lan(), router("r"), routerPort("p", "r", 5, 5, 24), vip("s", api.ProtoUdp, 9, 7, ways...))...)
	l[len(l)-1].Row.Ways = ways
	if e, _ := w.Apply(l); e != api.OK {
		t.Fatal(e)
	}
	ways[0].Port = 6
	clear(l)
	rows, k := w.Rows(), w.Keys()
	for _, r := range rows {
		for i := range r.Ways {
			r.Ways[i].Port = 8
		}
	}
	clear(rows[:cap(rows)])
	for _, l := range [][]api.Key{k.Switches, k.Routers, k.Ports, k.RouterPorts} {
		clear(l[:cap(l)])
	}
	frame := printed(t, udp(0x0a, 0, 1, 9, 3, 7))
	kept := slices.Clone(frame)
	want := printed(t, udp(0x0a, 0x0b, 1, 2, 3, 5))
	for range 2 {
		out, e := w.Inject("a", frame)
		if e != api.OK || len(out) != 1 || out[0].Frame != string(want) || !slices.Equal(frame, kept) {
			t.Errorf("%s, %d", tell(out), e)
		}
		clear(out[:cap(out)])
		c := w.Conns("a")
		clear(c[:cap(c)])
	}
	if c := w.Conns("a"); len(c) != 1 || c[0].Orig.Dst != 9 || c[0].Reply.Sport != 5 {
		t.Errorf("%+v", c)
	}
	if want, _ := keys.Update(api.Keys{}, w.Rows()); !sameKeys(w.Keys(), want) || len(want.RouterPorts) != 1 {
		t.Errorf("%+v", w.Keys())
	}
}
