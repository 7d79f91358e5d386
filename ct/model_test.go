package ct_test

import (
	"cmp"
	"math/rand"
	"slices"
	"testing"

	"skein/api"
	"skein/ct"
)

// model is a Table as the document's words have it: a list of connections that is gone through.
type model struct {
	room, now int
	conns     []api.Conn
}

// of is the places of a zone's connections that are there.
func (m *model) of(zone int) []int {
	var l []int
	for i, c := range m.conns {
		if c.Zone == zone && m.now < c.Expires {
			l = append(l, i)
		}
	}
	return l
}

// knows tells whether a connection of a zone has a tuple.
func (m *model) knows(zone int, x api.Tuple) bool {
	return slices.ContainsFunc(m.of(zone), func(i int) bool { return m.conns[i].Orig == x || m.conns[i].Reply == x })
}

func (m *model) look(zone int, s api.State) (api.State, api.Errno) {
	x, ok := ct.Of(s.P)
	if !ok {
		return api.State{}, api.ErrPrereq
	}
	s.Orig, s.Ct = x, api.CtNew
	for _, i := range m.of(zone) {
		c := &m.conns[i]
		if c.Orig != x && c.Reply != x {
			continue
		}
		c.Expires = m.now + 30
		s.Ct = 2
		if c.Orig != x {
			s.Ct += 4
		}
		if c.Nat {
			s.Ct += 8
		}
		if c.Nat && c.Orig == x {
			s.P.Ip.Dst, s.P.L4.Dport = c.Reply.Src, c.Reply.Sport
		} else if c.Nat {
			s.P.Ip.Src, s.P.L4.Sport = c.Orig.Dst, c.Orig.Dport
		}
		break
	}
	return s, api.OK
}

func (m *model) commit(zone int, s api.State) api.Errno {
	x, ok := ct.Of(s.P)
	if !ok || s.Orig.Proto != x.Proto {
		return api.ErrPrereq
	}
	if m.knows(zone, s.Orig) {
		return api.OK
	}
	c := api.Conn{Zone: zone, Orig: s.Orig, Reply: tuple(x.Proto, x.Dst, x.Src, x.Dport, x.Sport), Expires: m.now + 30}
	c.Nat = c.Reply != tuple(c.Orig.Proto, c.Orig.Dst, c.Orig.Src, c.Orig.Dport, c.Orig.Sport)
	return m.put(c)
}

func (m *model) put(c api.Conn) api.Errno {
	if c.Expires <= m.now || c.Nat != (c.Reply != tuple(c.Orig.Proto, c.Orig.Dst, c.Orig.Src, c.Orig.Dport, c.Orig.Sport)) {
		return api.ErrArg
	}
	if m.knows(c.Zone, c.Reply) || m.knows(c.Zone, c.Orig) {
		return api.ErrTwice
	}
	if len(m.of(c.Zone)) >= m.room {
		return api.ErrZone
	}
	m.conns = append(m.conns, c)
	return api.OK
}

func (m *model) drop(zone int) int {
	n := len(m.of(zone))
	m.conns = slices.DeleteFunc(m.conns, func(c api.Conn) bool { return c.Zone == zone })
	return n
}

func (m *model) all(zone int) []api.Conn {
	var l []api.Conn
	for _, i := range m.of(zone) {
		l = append(l, m.conns[i])
	}
	slices.SortFunc(l, func(a, b api.Conn) int {
		x, y := a.Orig, b.Orig
		return cmp.Or(x.Proto-y.Proto, int(x.Src)-int(y.Src), int(x.Dst)-int(y.Dst), x.Sport-y.Sport, x.Dport-y.Dport)
	})
	return l
}

func (m *model) fork() *model {
	return &model{m.room, m.now, slices.Clone(m.conns)}
}

// randomState is one of few packets, so that they meet again.
func randomState(r *rand.Rand) api.State {
	s := udp(r.Intn(2), r.Intn(2))
	if r.Intn(3) == 0 {
		s = tcp(r.Intn(2), r.Intn(2))
	}
	s.P.Ip.Src, s.P.Ip.Dst = uint32(r.Intn(3)), uint32(r.Intn(3))
	if r.Intn(20) == 0 {
		s.P.Ip.Frag = 1
	}
	return s
}

func randomTuple(r *rand.Rand) api.Tuple {
	x, _ := ct.Of(randomState(r).P)
	return x
}

// pair is a Table and its model.
type pair struct {
	x *ct.Table
	m *model
}

// lookAny has both look at a packet.
func (p pair) lookAny(t *testing.T, r *rand.Rand, zone int) api.State {
	t.Helper()
	s := randomState(r)
	got, e := p.x.Look(zone, s)
	if want, fault := p.m.look(zone, s); got != want || e != fault {
		t.Fatalf("Look: %+v, %d, not %+v, %d", got, e, want, fault)
	}
	return got
}

// commitAny has both commit a packet that was looked at, and is perhaps another one since.
func (p pair) commitAny(t *testing.T, r *rand.Rand, zone int) {
	t.Helper()
	s := p.lookAny(t, r, zone)
	if r.Intn(2) == 0 {
		s.P.Ip.Dst, s.P.L4.Dport = uint32(r.Intn(3)), r.Intn(2)
	}
	if r.Intn(8) == 0 {
		s.Orig = randomTuple(r)
	}
	if e, want := p.x.Commit(zone, s), p.m.commit(zone, s); e != want {
		t.Fatalf("Commit: %d, not %d", e, want)
	}
}

// putAny has both put a connection.
func (p pair) putAny(t *testing.T, r *rand.Rand, zone int) {
	t.Helper()
	c := api.Conn{Zone: zone, Orig: randomTuple(r), Reply: randomTuple(r), Expires: p.m.now + r.Intn(60) - 3}
	if r.Intn(2) == 0 {
		c.Reply = ct.Turned(c.Orig)
	}
	c.Nat = c.Reply != ct.Turned(c.Orig) != (r.Intn(10) == 0)
	if e, want := p.x.Put(c), p.m.put(c); e != want {
		t.Fatalf("Put of %+v: %d, not %d", c, e, want)
	}
}

// step has both do one thing, whichever.
func (p pair) step(t *testing.T, r *rand.Rand) {
	t.Helper()
	zone := r.Intn(3)
	switch r.Intn(12) {
	case 0, 1, 2, 3:
		p.lookAny(t, r, zone)
	case 4, 5, 6, 7:
		p.commitAny(t, r, zone)
	case 8, 9:
		p.putAny(t, r, zone)
	case 10:
		n := []int{0, 1, 2, 5, 14, 29, 30}[r.Intn(7)]
		p.m.now += n
		if e := p.x.Tick(n); e != api.OK {
			t.Fatalf("Tick: %d", e)
		}
	case 11:
		if r.Intn(8) == 0 {
			if n, want := p.x.Drop(zone), p.m.drop(zone); n != want {
				t.Fatalf("Drop: %d, not %d", n, want)
			}
		}
	}
}

// agrees asks that a Table answers as its model does.
func (p pair) agrees(t *testing.T) {
	t.Helper()
	for zone := range 3 {
		want := p.m.all(zone)
		if l := p.x.All(zone); !slices.Equal(l, want) || p.x.Count(zone) != len(want) || p.x.Now() != p.m.now {
			t.Fatalf("zone %d at %d: %+v, %d, not %+v", zone, p.x.Now(), l, p.x.Count(zone), want)
		}
	}
}

// P12.2 to P12.6: whatever is done, and to forks.
func TestModel(t *testing.T) {
	r := rand.New(rand.NewSource(7))
	for range 150 {
		room := 1 + r.Intn(8)
		pairs := []pair{{newTable(t, room), &model{room: room}}}
		for range 300 {
			p := pairs[r.Intn(len(pairs))]
			p.step(t, r)
			if r.Intn(60) == 0 && len(pairs) < 4 {
				pairs = append(pairs, pair{p.x.Fork(), p.m.fork()})
			}
			if r.Intn(10) == 0 {
				for _, p := range pairs {
					p.agrees(t)
				}
			}
		}
		for _, p := range pairs {
			p.agrees(t)
		}
	}
}

// P12.5: a packet that was committed, with Nat or without, and its answer.
func TestAnswersAreKnown(t *testing.T) {
	r := rand.New(rand.NewSource(8))
	known := 0
	for range 3000 {
		x := newTable(t, 1)
		asked := randomState(r)
		first, e := x.Look(5, asked)
		if e != api.OK {
			continue
		}
		sent := first
		if r.Intn(2) == 0 {
			sent.P.Ip.Dst, sent.P.L4.Dport = uint32(r.Intn(5)), r.Intn(5)
		}
		commits(t, "Commit", x, 5, sent, api.OK)
		reply := backOf(sent)
		if back, _ := ct.Of(reply.P); back == first.Orig {
			continue // it is its own answer: forward comes first
		}
		x.Tick(29)
		again, back := looked(t, x, 5, asked), looked(t, x, 5, reply)
		if again.Ct&^api.CtNat != api.CtEst || again.P != sent.P {
			t.Fatalf("again: %+v", again)
		}
		if ends, _ := ct.Of(back.P); back.Ct&^api.CtNat != api.CtEst|api.CtReply || ct.Turned(ends) != first.Orig {
			t.Fatalf("its answer: %+v", back)
		}
		known++
	}
	if known < 2000 {
		t.Errorf("too few: %d", known)
	}
}
