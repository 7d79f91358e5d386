package ct

import (
	"testing"

	"skein/api"
)

// P12.4: the clock's end lies beyond what calls of Tick come to in a test: it is begun close by.
func TestClockEnds(t *testing.T) {
	const most = 1 << 62
	x := newTable(2, most-31)
	if e := x.Tick(32); e != api.ErrFull || x.Now() != most-31 {
		t.Errorf("%d, %d", e, x.Now())
	}
	c := api.Conn{Zone: 5, Orig: api.Tuple{Proto: 17, Src: 1, Dst: 2}, Reply: api.Tuple{Proto: 17, Src: 2, Dst: 1}, Expires: most}
	if e := x.Put(c); e != api.OK {
		t.Errorf("%d", e)
	}
	if e := x.Tick(1<<31 - 1); e != api.ErrFull || x.Count(5) != 1 {
		t.Errorf("%d, %d", e, x.Count(5))
	}
	if e := x.Tick(1 << 31); e != api.ErrArg {
		t.Errorf("wrong ahead of full: %d", e)
	}
	if e := x.Tick(30); e != api.OK || x.Now() != most-1 || x.Count(5) != 1 {
		t.Errorf("%d, %d, %d", e, x.Now(), x.Count(5))
	}
	if e := x.Tick(1); e != api.OK || x.Now() != most || x.Count(5) != 0 {
		t.Errorf("%d, %d, %d", e, x.Now(), x.Count(5))
	}
	for n, want := range map[int]api.Errno{0: api.OK, 1: api.ErrFull, 1<<31 - 1: api.ErrFull, -1: api.ErrArg} {
		if e := x.Tick(n); e != want || x.Now() != most {
			t.Errorf("%d: %d, %d", n, e, x.Now())
		}
	}
}

// P12.3, P12.4: at the clock's end connections still come, and do not end any more.
func TestAtClocksEnd(t *testing.T) {
	const most = 1 << 62
	x := newTable(1, most)
	p := api.Packet{IsIp: true, Ip: api.Ip{Proto: api.ProtoUdp, Src: 1, Dst: 2}, L4: api.L4{Kind: api.KindUdp, Sport: 3, Dport: 4}}
	s, _ := x.Look(5, api.State{P: p})
	if e := x.Commit(5, s); e != api.OK || x.All(5)[0].Expires != most+30 {
		t.Errorf("%d, %+v", e, x.All(5))
	}
	if s, _ = x.Look(5, s); s.Ct != api.CtEst || x.All(5)[0].Expires != most+30 || x.Fork().Now() != most {
		t.Errorf("%+v, %+v", s, x.All(5))
	}
}

// What is kept is no more than what is there.
func TestNothingIsKept(t *testing.T) {
	x := newTable(9, 0)
	for zone := range 4 {
		for i := range 5 {
			o := api.Tuple{Proto: 17, Src: 1, Dst: 2, Sport: i}
			if e := x.Put(api.Conn{Zone: zone, Orig: o, Reply: Turned(o), Expires: 10 + i}); e != api.OK {
				t.Fatal(e)
			}
		}
	}
	x.Drop(3)
	x.Tick(12)
	if len(x.zones) != 3 || len(x.ends) != 6 || len(x.zones[0].byOrig) != 2 || len(x.zones[0].byReply) != 2 {
		t.Errorf("%d zones, %d connections", len(x.zones), len(x.ends))
	}
	x.Tick(2)
	if len(x.zones) != 0 || len(x.ends) != 0 {
		t.Errorf("%d zones, %d connections", len(x.zones), len(x.ends))
	}
}
