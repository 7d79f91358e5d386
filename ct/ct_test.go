package ct_test

import (
	"math"
	"math/rand"
	"slices"
	"testing"

	"skein/api"
	"skein/ct"
	"skein/packet"
)

const ipA, ipB, ipC = 0x0a000001, 0x0a000002, 0x0a000003

// ipv4 is a State of a packet from ipA to ipB.
func ipv4(proto int, x api.L4) api.State {
	return api.State{P: api.Packet{
		Eth: api.Eth{Dst: 2, Src: 1, Tagged: true, Tag: 7, Type: api.TypeIp}, IsIp: true,
		Ip: api.Ip{Tos: 3, Id: 4, Frag: 0x4000, Ttl: 9, Proto: proto, Src: ipA, Dst: ipB, Options: "\x01\x01\x01\x00"},
		L4: x, Pad: "pad",
	}, Dp: 12, In: 13, Out: 14, Regs: [4]uint32{15, 16, 17, 18}}
}

func udp(sport, dport int) api.State {
	return ipv4(api.ProtoUdp, api.L4{Kind: api.KindUdp, Sport: sport, Dport: dport, Data: "data"})
}

func tcp(sport, dport int) api.State {
	return ipv4(api.ProtoTcp, api.L4{Kind: api.KindTcp, Sport: sport, Dport: dport, Seq: 5, Flags: 2, Options: "opts", Data: "data"})
}

func icmp(kind, code int, rest uint32) api.State {
	return ipv4(api.ProtoIcmp, api.L4{Kind: api.KindIcmp, Type: kind, Code: code, Rest: rest, Data: "data"})
}

// backOf is a State of the answer to a packet, as who got it sends it.
func backOf(s api.State) api.State {
	s.P.Ip.Src, s.P.Ip.Dst = s.P.Ip.Dst, s.P.Ip.Src
	s.P.L4.Sport, s.P.L4.Dport = s.P.L4.Dport, s.P.L4.Sport
	if s.P.L4.Kind == api.KindIcmp {
		s.P.L4.Type = 8 - s.P.L4.Type
	}
	s.Ct, s.Orig = 0, api.Tuple{}
	return s
}

func tuple(proto int, src, dst uint32, sport, dport int) api.Tuple {
	return api.Tuple{Proto: proto, Src: src, Dst: dst, Sport: sport, Dport: dport}
}

func newTable(t *testing.T, room int) *ct.Table {
	t.Helper()
	x, e := ct.New(room)
	if x == nil || e != api.OK {
		t.Fatalf("New(%d): %v, %d", room, x, e)
	}
	return x
}

// looks asks what Look answers.
func looks(t *testing.T, what string, x *ct.Table, zone int, s, want api.State) {
	t.Helper()
	if got, e := x.Look(zone, s); got != want || e != api.OK {
		t.Errorf("%s: %+v, %d, not %+v", what, got, e, want)
	}
}

// unlooked asks for an error of Look, and nothing beside it.
func unlooked(t *testing.T, what string, x *ct.Table, zone int, s api.State, want api.Errno) {
	t.Helper()
	if got, e := x.Look(zone, s); got != (api.State{}) || e != want {
		t.Errorf("%s: %+v, %d, not %d", what, got, e, want)
	}
}

// commits asks what Commit answers.
func commits(t *testing.T, what string, x *ct.Table, zone int, s api.State, want api.Errno) {
	t.Helper()
	if e := x.Commit(zone, s); e != want {
		t.Errorf("%s: %d, not %d", what, e, want)
	}
}

// looked is a State as Look leaves it.
func looked(t *testing.T, x *ct.Table, zone int, s api.State) api.State {
	t.Helper()
	got, e := x.Look(zone, s)
	if e != api.OK {
		t.Fatalf("Look: %d", e)
	}
	return got
}

// has asks that a zone's connections are those.
func has(t *testing.T, what string, x *ct.Table, zone int, want ...api.Conn) {
	t.Helper()
	if l := x.All(zone); !slices.Equal(l, want) || x.Count(zone) != len(want) {
		t.Errorf("%s: zone %d: %+v, %d, not %+v", what, zone, l, x.Count(zone), want)
	}
}

// P12.1
func TestNew(t *testing.T) {
	for _, room := range []int{0, -1, 65537, math.MinInt, math.MaxInt, 1 << 32} {
		if x, e := ct.New(room); x != nil || e != api.ErrArg {
			t.Errorf("%d: %v, %d", room, x, e)
		}
	}
	for _, room := range []int{1, 2, 65535, 65536} {
		x := newTable(t, room)
		for _, zone := range []int{-1, 0, 1, 65535, 65536} {
			has(t, "new", x, zone)
			if x.Drop(zone) != 0 {
				t.Errorf("Drop of zone %d", zone)
			}
		}
		if x.Now() != 0 {
			t.Errorf("the clock: %d", x.Now())
		}
	}
	x, y := newTable(t, 1), newTable(t, 1)
	x.Tick(3)
	commits(t, "one", x, 1, looked(t, x, 1, udp(1, 2)), api.OK)
	if y.Now() != 0 || y.Count(1) != 0 {
		t.Errorf("two new ones are one")
	}
}

// P12.1
func TestOf(t *testing.T) {
	noIp, arp := udp(1, 2).P, api.Packet{Eth: api.Eth{Type: api.TypeArp}, IsArp: true, Arp: api.Arp{Op: 1, Spa: ipA, Tpa: ipB}}
	noIp.IsIp = false
	framed := func(frag int) api.Packet {
		p := udp(1000, 53).P
		p.Ip.Frag = frag
		return p
	}
	for _, c := range []struct {
		what string
		p    api.Packet
		want api.Tuple
	}{
		{"UDP", udp(1000, 53).P, tuple(17, ipA, ipB, 1000, 53)},
		{"TCP", tcp(65535, 0).P, tuple(6, ipA, ipB, 65535, 0)},
		{"an echo", icmp(8, 0, 0xfedc5678).P, tuple(1, ipA, ipB, 0xfedc, 0xfedc)},
		{"its reply", icmp(0, 0, 0x00010002).P, tuple(1, ipA, ipB, 1, 1)},
		{"no flags", framed(0), tuple(17, ipA, ipB, 1000, 53)},
		{"the other flags", framed(0xc000), tuple(17, ipA, ipB, 1000, 53)},
		{"a first fragment", framed(0x2000), api.Tuple{}},
		{"a later fragment", framed(0x2001), api.Tuple{}},
		{"the last fragment", framed(0x1fff), api.Tuple{}},
		{"a fragment as it is read", ipv4(17, api.L4{Data: "x"}).P, api.Tuple{}},
		{"an echo of another code", icmp(8, 1, 0).P, api.Tuple{}},
		{"a reply of another code", icmp(0, 255, 0).P, api.Tuple{}},
		{"unreachable", icmp(3, 0, 0).P, api.Tuple{}},
		{"time exceeded", icmp(11, 0, 0).P, api.Tuple{}},
		{"type 1", icmp(1, 0, 0).P, api.Tuple{}},
		{"type 7", icmp(7, 0, 0).P, api.Tuple{}},
		{"type 9", icmp(9, 0, 0).P, api.Tuple{}},
		{"type 264", icmp(256+8, 0, 0).P, api.Tuple{}},
		{"another protocol", ipv4(47, api.L4{Data: "x"}).P, api.Tuple{}},
		{"another kind", ipv4(47, api.L4{Kind: 4, Sport: 1, Dport: 2}).P, api.Tuple{}},
		{"no IPv4", noIp, api.Tuple{}},
		{"ARP", arp, api.Tuple{}},
		{"another type", api.Packet{Eth: api.Eth{Type: 0x86dd}, Body: "x"}, api.Tuple{}},
		{"nothing", api.Packet{}, api.Tuple{}},
	} {
		if x, ok := ct.Of(c.p); x != c.want || ok != (c.want != api.Tuple{}) {
			t.Errorf("%s: %+v, %v", c.what, x, ok)
		}
	}
}

// P12.1
func TestTurned(t *testing.T) {
	x := tuple(6, 1, 2, 3, 4)
	if y := ct.Turned(x); y != tuple(6, 2, 1, 4, 3) || ct.Turned(y) != x {
		t.Errorf("%+v", y)
	}
	if y := ct.Turned(tuple(-5, 0, math.MaxUint32, -1, math.MaxInt)); y != tuple(-5, math.MaxUint32, 0, math.MaxInt, -1) {
		t.Errorf("%+v", y)
	}
	if ct.Turned(api.Tuple{}) != (api.Tuple{}) {
		t.Errorf("of noughts")
	}
}

// noTuple is States of packets without a tuple.
func noTuple() []api.State {
	part := udp(1, 2)
	part.P.Ip.Frag = 0x2000
	return []api.State{{}, part, icmp(3, 0, 0), icmp(8, 1, 0), ipv4(47, api.L4{}), {P: api.Packet{Eth: api.Eth{Type: api.TypeArp}, IsArp: true}}}
}

// P12.2: what is not looked at.
func TestLookRefuses(t *testing.T) {
	x := newTable(t, 4)
	for _, zone := range []int{-1, 65536, math.MinInt, math.MaxInt, 1 << 32} {
		unlooked(t, "no zone", x, zone, udp(1, 2), api.ErrArg)
		unlooked(t, "no zone ahead of no tuple", x, zone, api.State{}, api.ErrArg)
	}
	for _, s := range noTuple() {
		s.Ct, s.Orig = 3, tuple(17, 1, 2, 3, 4)
		unlooked(t, "no tuple", x, 5, s, api.ErrPrereq)
	}
	has(t, "refused", x, 5)
}

// P12.2: a packet of no connection. What was known of it ahead plays no part.
func TestLookNew(t *testing.T) {
	x := newTable(t, 4)
	for _, zone := range []int{0, 1, 65535} {
		for _, s := range []api.State{udp(1000, 53), tcp(1000, 80), icmp(8, 0, 0x12340001), icmp(0, 0, 0x12340001)} {
			want := s
			want.Ct = api.CtNew
			want.Orig, _ = ct.Of(s.P)
			looks(t, "new", x, zone, s, want)
			s.Ct, s.Orig = 255, tuple(1, 2, 3, 4, 5)
			looks(t, "once more", x, zone, s, want)
			has(t, "a look remembers nothing", x, zone)
		}
	}
}

// P12.2, P12.5: forward and backward, without Nat; the document's example.
func TestLookWithoutNat(t *testing.T) {
	for _, s := range []api.State{udp(1000, 53), tcp(1000, 80), icmp(8, 0, 0x12340001)} {
		for _, zone := range []int{0, 5, 65535} {
			x := newTable(t, 1)
			first := looked(t, x, zone, s)
			commits(t, "Commit", x, zone, first, api.OK)
			again := first
			again.Ct = api.CtEst
			looks(t, "again", x, zone, s, again)
			back := backOf(s)
			want := back
			want.Ct, want.Orig = api.CtEst|api.CtReply, ct.Turned(first.Orig)
			looks(t, "its answer", x, zone, back, want)
			has(t, "one", x, zone, api.Conn{Zone: zone, Orig: first.Orig, Reply: ct.Turned(first.Orig), Expires: 30})
			x.Tick(30)
			want.Ct = api.CtNew
			looks(t, "30 ticks on", x, zone, back, want)
		}
	}
}

// P12.2, P12.5: forward and backward, with Nat, of all three protocols.
func TestLookWithNat(t *testing.T) {
	for _, s := range []api.State{udp(1000, 53), tcp(1000, 80), icmp(8, 0, 0x12340001)} {
		x := newTable(t, 1)
		first := looked(t, x, 5, s)
		sent := first
		sent.P.Ip.Dst = ipC
		if s.P.L4.Kind != api.KindIcmp {
			sent.P.L4.Dport = 8080
		}
		commits(t, "Commit", x, 5, sent, api.OK)
		reply, _ := ct.Of(backOf(sent).P)
		has(t, "one", x, 5, api.Conn{Zone: 5, Orig: first.Orig, Reply: reply, Nat: true, Expires: 30})

		again := sent
		again.Ct = api.CtEst | api.CtNat
		looks(t, "again", x, 5, s, again)

		back := backOf(sent)
		want := backOf(s)
		want.Ct, want.Orig = api.CtEst|api.CtReply|api.CtNat, reply
		looks(t, "its answer", x, 5, back, want)
		if _, e := packet.Print(want.P); e != api.OK {
			t.Errorf("Print: %d", e)
		}

		unchanged := backOf(s)
		want = unchanged
		want.Ct, want.Orig = api.CtNew, ct.Turned(first.Orig)
		looks(t, "an answer from whom nobody asked", x, 5, unchanged, want)
	}
}

// P12.2: Src alone is changed by another kind of Nat, and its answer finds it.
func TestLookWithSource(t *testing.T) {
	x := newTable(t, 1)
	first := looked(t, x, 5, udp(1000, 53))
	sent := first
	sent.P.Ip.Src = ipC // what is changed is the source: forward nothing is
	commits(t, "Commit", x, 5, sent, api.OK)
	again := first
	again.Ct = api.CtEst | api.CtNat
	looks(t, "forward", x, 5, udp(1000, 53), again)
	back := backOf(sent)
	want := back
	want.Ct, want.Orig = api.CtEst|api.CtReply|api.CtNat, tuple(17, ipB, ipC, 53, 1000)
	looks(t, "backward", x, 5, back, want)
}

// P12.2: an echo's identifier is its ports, and is changed as these are; nothing else of it is.
func TestLookWithIdentifier(t *testing.T) {
	x := newTable(t, 1)
	c := api.Conn{Zone: 5, Orig: tuple(1, ipA, ipB, 0x1111, 0x1111), Reply: tuple(1, ipC, ipA, 0x2222, 0x2222), Nat: true, Expires: 9}
	if e := x.Put(c); e != api.OK {
		t.Fatal(e)
	}
	want := icmp(8, 0, 0x2222abcd)
	want.P.Ip.Dst, want.Ct, want.Orig = ipC, api.CtEst|api.CtNat, c.Orig
	looks(t, "forward", x, 5, icmp(8, 0, 0x1111abcd), want)
	back := icmp(0, 0, 0x2222abcd)
	back.P.Ip.Src, back.P.Ip.Dst = ipC, ipA
	want = icmp(0, 0, 0x1111abcd)
	want.P.Ip.Src, want.P.Ip.Dst, want.Ct, want.Orig = ipB, ipA, api.CtEst|api.CtReply|api.CtNat, c.Reply
	looks(t, "backward", x, 5, back, want)
}

// P12.2: forward comes first, of a packet that is its own answer.
func TestLookBothWays(t *testing.T) {
	x := newTable(t, 2)
	s := udp(7, 7)
	s.P.Ip.Dst = ipA
	first := looked(t, x, 5, s)
	commits(t, "Commit", x, 5, first, api.OK)
	first.Ct = api.CtEst
	looks(t, "again", x, 5, s, first)
	has(t, "one", x, 5, api.Conn{Zone: 5, Orig: first.Orig, Reply: first.Orig, Expires: 30})
	if x.Tick(30); x.Count(5) != 0 || x.Commit(5, first) != api.OK {
		t.Errorf("it is not gone")
	}
}

// P12.2, P12.6: a look, forward or backward, with Nat or without, has a connection live on; one of a new packet has not.
func TestLookKeeps(t *testing.T) {
	for _, to := range []uint32{ipB, ipC} {
		x := newTable(t, 2)
		sent := looked(t, x, 5, udp(1000, 53))
		sent.P.Ip.Dst = to
		commits(t, "Commit", x, 5, sent, api.OK)
		for _, s := range []api.State{udp(1000, 53), backOf(sent), udp(1000, 53)} {
			x.Tick(29)
			if looked(t, x, 5, s).Ct&api.CtEst == 0 || x.All(5)[0].Expires != x.Now()+30 {
				t.Errorf("at %d: %+v", x.Now(), x.All(5))
			}
		}
		x.Tick(29)
		looked(t, x, 5, udp(1000, 54))
		looked(t, x, 6, udp(1000, 53))
		unlooked(t, "no tuple", x, 5, api.State{}, api.ErrPrereq)
		x.Tick(1)
		has(t, "not looked at", x, 5)
	}
}

// P12.2: a connection that would be there for longer ends CtLife ticks from its last packet, too.
func TestLookShortens(t *testing.T) {
	x := newTable(t, 2)
	x.Tick(10)
	c := api.Conn{Zone: 5, Orig: tuple(17, ipA, ipB, 1, 2), Reply: tuple(17, ipB, ipA, 2, 1), Expires: math.MaxInt}
	if e := x.Put(c); e != api.OK {
		t.Fatal(e)
	}
	looked(t, x, 5, udp(1, 2))
	c.Expires = 40
	has(t, "behind a look", x, 5, c)
	x.Tick(30)
	has(t, "gone", x, 5)
}

// P12.3: what is not committed.
func TestCommitRefuses(t *testing.T) {
	x := newTable(t, 4)
	good := looked(t, x, 5, udp(1, 2))
	for _, zone := range []int{-1, 65536, math.MinInt, math.MaxInt, 1 << 32} {
		commits(t, "no zone", x, zone, good, api.ErrArg)
		commits(t, "no zone ahead of no tuple", x, zone, api.State{}, api.ErrArg)
	}
	for _, s := range noTuple() {
		s.Orig = good.Orig
		commits(t, "no tuple", x, 5, s, api.ErrPrereq)
	}
	for _, proto := range []int{0, 6, 1, -1, 256 + 17} {
		s := good
		s.Orig.Proto = proto
		commits(t, "another protocol", x, 5, s, api.ErrPrereq)
	}
	commits(t, "not looked at", x, 5, udp(1, 2), api.ErrPrereq)
	has(t, "refused", x, 5)
	for _, zone := range []int{0, 5, 65535} {
		commits(t, "a zone", x, zone, good, api.OK)
		has(t, "a zone", x, zone, api.Conn{Zone: zone, Orig: good.Orig, Reply: ct.Turned(good.Orig), Expires: 30})
	}
}

// natted is a State as Look of a new packet leaves it, to another destination since.
func natted(s api.State, dst uint32, dport int) api.State {
	s.Orig, _ = ct.Of(s.P)
	s.P.Ip.Dst, s.P.L4.Dport = dst, dport
	return s
}

// P12.3: a connection that has that Orig as its Orig, or as its Reply: nothing is done, not even that it lives on.
func TestCommitTwice(t *testing.T) {
	x := newTable(t, 4)
	commits(t, "first", x, 5, natted(udp(1, 2), ipC, 3), api.OK)
	c := api.Conn{Zone: 5, Orig: tuple(17, ipA, ipB, 1, 2), Reply: tuple(17, ipC, ipA, 3, 1), Nat: true, Expires: 30}
	has(t, "first", x, 5, c)
	x.Tick(7)
	commits(t, "the same", x, 5, natted(udp(1, 2), ipC, 3), api.OK)
	commits(t, "to another one", x, 5, natted(udp(1, 2), ipB, 2), api.OK)
	s := backOf(natted(udp(1, 2), ipC, 3))
	s.Orig, _ = ct.Of(s.P)
	commits(t, "its answer", x, 5, s, api.OK)
	s.P.Ip.Dst = 99
	commits(t, "its answer, to another one", x, 5, s, api.OK)
	has(t, "nothing was done", x, 5, c)
}

// P12.3: answers that would not be known apart, by the Reply and by the Orig of another connection.
func TestCommitClash(t *testing.T) {
	x := newTable(t, 4)
	commits(t, "first", x, 5, natted(udp(1, 2), ipC, 3), api.OK)
	has := func(what string) {
		t.Helper()
		has(t, what, x, 5, api.Conn{Zone: 5, Orig: tuple(17, ipA, ipB, 1, 2), Reply: tuple(17, ipC, ipA, 3, 1), Nat: true, Expires: 30})
	}
	commits(t, "the same Reply", x, 5, natted(udp(1, 9), ipC, 3), api.ErrTwice)
	has("the same Reply")
	s := backOf(udp(1, 2))
	s.Orig = tuple(17, 50, 51, 52, 53)
	commits(t, "an Orig as Reply", x, 5, s, api.ErrTwice)
	has("an Orig as Reply")
	commits(t, "another zone", x, 6, s, api.OK)
	s.Orig = tuple(17, ipA, ipB, 1, 2)
	commits(t, "there already ahead of twice", x, 5, s, api.OK)
	s.Orig = tuple(6, 50, 51, 52, 53)
	commits(t, "another protocol ahead of twice", x, 5, s, api.ErrPrereq)
	has("all")
}

// P12.3, P12.6: a full zone stays as it is, and others have room.
func TestCommitFull(t *testing.T) {
	x := newTable(t, 3)
	var want []api.Conn
	for i := range 3 {
		commits(t, "room", x, 5, looked(t, x, 5, udp(i, 2)), api.OK)
		o := tuple(17, ipA, ipB, i, 2)
		want = append(want, api.Conn{Zone: 5, Orig: o, Reply: ct.Turned(o), Expires: 30})
	}
	for i := 3; i < 6; i++ {
		s := looked(t, x, 5, udp(i, 2))
		commits(t, "full", x, 5, s, api.ErrZone)
		has(t, "full", x, 5, want...)
		commits(t, "another zone", x, 6, s, api.OK)
	}
	commits(t, "there already ahead of full", x, 5, looked(t, x, 5, udp(1, 2)), api.OK)
	s := natted(udp(0, 9), ipB, 2)
	commits(t, "twice ahead of full", x, 5, s, api.ErrTwice)
	has(t, "full", x, 5, want...)
	x.Tick(29)
	looked(t, x, 5, udp(1, 2))
	x.Tick(1)
	want[1].Expires = 59
	has(t, "two are gone", x, 5, want[1])
	commits(t, "room again", x, 5, looked(t, x, 5, udp(8, 2)), api.OK)
	commits(t, "room again", x, 5, looked(t, x, 5, udp(9, 2)), api.OK)
	commits(t, "full again", x, 5, looked(t, x, 5, udp(10, 2)), api.ErrZone)
}

// P12.1, P12.3: the smallest and the greatest room.
func TestRooms(t *testing.T) {
	for _, room := range []int{1, 65536} {
		x := newTable(t, room)
		for i := range room {
			if e := x.Commit(0, looked(t, x, 0, udp(i, 65535))); e != api.OK {
				t.Fatalf("%d of %d: %d", i, room, e)
			}
		}
		commits(t, "one more", x, 0, looked(t, x, 0, tcp(1, 2)), api.ErrZone)
		if x.Count(0) != room || x.Tick(30) != api.OK || x.Count(0) != 0 {
			t.Errorf("%d", x.Count(0))
		}
		commits(t, "room again", x, 0, looked(t, x, 0, tcp(1, 2)), api.OK)
	}
}

// P12.4
func TestTick(t *testing.T) {
	x := newTable(t, 1)
	for _, n := range []int{-1, 1 << 31, math.MinInt, math.MaxInt, 1 << 62} {
		if e := x.Tick(n); e != api.ErrArg || x.Now() != 0 {
			t.Errorf("%d: %d, %d", n, e, x.Now())
		}
	}
	now := 0
	for _, n := range []int{0, 1, 2, 0, 30, 1<<31 - 1, 1<<31 - 1, 5} {
		now += n
		if e := x.Tick(n); e != api.OK || x.Now() != now {
			t.Errorf("%d: %d, %d", n, e, x.Now())
		}
	}
}

// P12.4: a connection is there as long as the clock is below its Expires: the last tick, and the first behind it.
func TestLastTick(t *testing.T) {
	for _, ticks := range [][]int{{29, 1}, {0, 10, 10, 9, 1}, {28, 1, 1}} {
		x := newTable(t, 1)
		x.Tick(1000)
		s := looked(t, x, 5, udp(1, 2))
		commits(t, "Commit", x, 5, s, api.OK)
		for _, n := range ticks[:len(ticks)-1] {
			x.Tick(n)
			has(t, "there", x, 5, api.Conn{Zone: 5, Orig: s.Orig, Reply: ct.Turned(s.Orig), Expires: 1030})
		}
		y := x.Fork()
		if looked(t, y, 5, udp(1, 2)).Ct != api.CtEst || y.Commit(5, natted(udp(7, 8), ipB, 8)) != api.ErrZone {
			t.Errorf("at its last tick")
		}
		x.Tick(ticks[len(ticks)-1])
		has(t, "gone", x, 5)
		if looked(t, x, 5, udp(1, 2)).Ct != api.CtNew || looked(t, x, 5, backOf(udp(1, 2))).Ct != api.CtNew {
			t.Errorf("behind its last tick")
		}
		commits(t, "room", x, 5, natted(udp(7, 8), ipB, 8), api.OK)
	}
}

// conn is a connection without Nat.
func conn(zone int, orig api.Tuple, expires int) api.Conn {
	return api.Conn{Zone: zone, Orig: orig, Reply: ct.Turned(orig), Expires: expires}
}

// puts asks what Put answers.
func puts(t *testing.T, what string, x *ct.Table, c api.Conn, want api.Errno) {
	t.Helper()
	if e := x.Put(c); e != want {
		t.Errorf("%s: %d, not %d", what, e, want)
	}
}

// P12.4: by rising Orig: Proto, Src, Dst, Sport, Dport.
func TestAllInOrder(t *testing.T) {
	var want []api.Conn
	for _, o := range []api.Tuple{
		tuple(-1, 9, 9, 9, 9), tuple(1, 5, 9, 9, 9), tuple(6, 0, 9, 9, 9), tuple(6, 1, 1, 9, 9), tuple(6, 1, 2, -1, 9),
		tuple(6, 1, 2, 3, 9), tuple(6, 1, 2, 4, 1), tuple(6, 1, 2, 4, 2), tuple(6, math.MaxUint32, 0, 0, 0), tuple(17, 0, 0, 0, 0),
	} {
		want = append(want, conn(5, o, 100-len(want)))
	}
	r := rand.New(rand.NewSource(1))
	for range 20 {
		x := newTable(t, 10)
		for _, i := range r.Perm(len(want)) {
			puts(t, "Put", x, want[i], api.OK)
		}
		has(t, "in order", x, 5, want...)
	}
}

// P12.4: connections that may not be put.
func TestPutRefuses(t *testing.T) {
	x := newTable(t, 2)
	x.Tick(50)
	o := tuple(17, 1, 2, 3, 4)
	for _, c := range []api.Conn{
		conn(-1, o, 99), conn(65536, o, 99), conn(math.MinInt, o, 99), conn(math.MaxInt, o, 99),
		conn(5, o, 50), conn(5, o, 49), conn(5, o, 0), conn(5, o, -1), conn(5, o, math.MinInt),
		{Zone: 5, Orig: o, Reply: ct.Turned(o), Nat: true, Expires: 99},
		{Zone: 5, Orig: o, Reply: o, Expires: 99},
		{Zone: 5, Orig: o, Reply: tuple(6, 2, 1, 4, 3), Expires: 99},
		{Zone: 5, Orig: o, Reply: tuple(17, 9, 1, 4, 3), Expires: 99},
		{Zone: 5, Orig: o, Reply: tuple(17, 2, 9, 4, 3), Expires: 99},
		{Zone: 5, Orig: o, Reply: tuple(17, 2, 1, 9, 3), Expires: 99},
		{Zone: 5, Orig: o, Reply: tuple(17, 2, 1, 4, 9), Expires: 99},
		{Zone: 5}, {},
	} {
		puts(t, "wrong", x, c, api.ErrArg)
	}
	has(t, "refused", x, 5)
	natted := api.Conn{Zone: 5, Orig: o, Reply: tuple(17, 2, 1, 4, 9), Nat: true, Expires: 51}
	puts(t, "with Nat", x, natted, api.OK)
	has(t, "with Nat", x, 5, natted)
	for _, zone := range []int{0, 65535} {
		puts(t, "a zone", x, conn(zone, o, math.MaxInt), api.OK)
		has(t, "a zone", x, zone, conn(zone, o, math.MaxInt))
	}
	x.Tick(1)
	has(t, "gone", x, 5)
}

// P12.4: a connection that has a tuple of it, and a full zone.
func TestPutTwice(t *testing.T) {
	x := newTable(t, 2)
	a := api.Conn{Zone: 5, Orig: tuple(17, 1, 2, 3, 4), Reply: tuple(17, 7, 1, 8, 3), Nat: true, Expires: 9}
	puts(t, "first", x, a, api.OK)
	other := tuple(17, 50, 51, 52, 53)
	for _, both := range [][2]api.Tuple{
		{a.Orig, other}, {other, a.Orig}, {a.Reply, other}, {other, a.Reply}, {a.Orig, a.Reply}, {a.Reply, a.Orig},
		{a.Orig, ct.Turned(a.Orig)}, {ct.Turned(a.Reply), a.Reply},
	} {
		c := api.Conn{Zone: 5, Orig: both[0], Reply: both[1], Expires: 20}
		c.Nat = c.Reply != ct.Turned(c.Orig)
		puts(t, "twice", x, c, api.ErrTwice)
		has(t, "twice", x, 5, a)
		y := x.Fork()
		c.Zone = 6
		puts(t, "another zone", y, c, api.OK)
		c.Zone, c.Expires = 5, 0
		puts(t, "wrong ahead of twice", x, c, api.ErrArg)
	}
	b := conn(5, other, 9)
	puts(t, "second", x, b, api.OK)
	puts(t, "full", x, conn(5, tuple(17, 60, 61, 62, 63), 9), api.ErrZone)
	puts(t, "twice ahead of full", x, b, api.ErrTwice)
	puts(t, "wrong ahead of full", x, conn(5, tuple(17, 60, 61, 62, 63), 0), api.ErrArg)
	has(t, "full", x, 5, a, b)
	x.Tick(9)
	puts(t, "behind their end", x, conn(5, a.Orig, 10), api.OK)
	has(t, "behind their end", x, 5, conn(5, a.Orig, 10))
}

// P12.4
func TestDrop(t *testing.T) {
	x := newTable(t, 9)
	for i := range 7 {
		puts(t, "Put", x, conn(5, tuple(17, 1, 2, i, 4), 10+i), api.OK)
		puts(t, "Put", x, conn(6, tuple(17, 1, 2, i, 4), 10+i), api.OK)
	}
	x.Tick(12)
	if x.Count(5) != 4 || x.Drop(-1) != 0 || x.Drop(65536) != 0 || x.Drop(7) != 0 || x.Drop(5) != 4 || x.Drop(5) != 0 {
		t.Errorf("%+v", x.All(5))
	}
	has(t, "dropped", x, 5)
	if x.Count(6) != 4 {
		t.Errorf("another zone: %+v", x.All(6))
	}
	puts(t, "anew", x, conn(5, tuple(17, 1, 2, 6, 4), 14), api.OK)
	x.Tick(2)
	has(t, "anew", x, 5)
	has(t, "another zone", x, 6, conn(6, tuple(17, 1, 2, 5, 4), 15), conn(6, tuple(17, 1, 2, 6, 4), 16))
}

// P12.4: a fork goes on by itself, and so does what it was forked from.
func TestFork(t *testing.T) {
	x := newTable(t, 3)
	x.Tick(5)
	a, b := conn(5, tuple(17, ipA, ipB, 1, 2), 35), conn(6, tuple(17, ipA, ipB, 1, 2), 20)
	puts(t, "Put", x, a, api.OK)
	puts(t, "Put", x, b, api.OK)
	y := x.Fork()
	for _, z := range []*ct.Table{x, y} {
		if z.Now() != 5 {
			t.Errorf("%d", z.Now())
		}
		has(t, "the same", z, 5, a)
		has(t, "the same", z, 6, b)
	}
	y.Tick(10)
	looked(t, y, 5, udp(1, 2))
	commits(t, "Commit", y, 5, looked(t, y, 5, udp(3, 4)), api.OK)
	y.Drop(6)
	has(t, "the old one", x, 5, a)
	has(t, "the old one", x, 6, b)
	later, c := a, conn(5, tuple(17, ipA, ipB, 3, 4), 45)
	later.Expires = 45
	has(t, "the fork", y, 5, later, c)
	x.Tick(30)
	has(t, "the old one", x, 5)
	has(t, "the fork", y, 5, later, c)
	if x.Now() != 35 || y.Now() != 15 {
		t.Errorf("%d, %d", x.Now(), y.Now())
	}
	commits(t, "its room", y, 5, looked(t, y, 5, udp(5, 6)), api.OK)
	commits(t, "its room", y, 5, looked(t, y, 5, udp(7, 8)), api.ErrZone)
}

// P12.4: a nil Table, and one that no call made.
func TestNilTable(t *testing.T) {
	for _, x := range []*ct.Table{nil, {}} {
		unlooked(t, "Look", x, 5, udp(1, 2), api.ErrClosed)
		unlooked(t, "Look", x, -1, api.State{}, api.ErrClosed)
		commits(t, "Commit", x, 5, natted(udp(1, 2), ipB, 2), api.ErrClosed)
		commits(t, "Commit", x, -1, api.State{}, api.ErrClosed)
		puts(t, "Put", x, conn(5, tuple(17, 1, 2, 3, 4), 9), api.ErrClosed)
		puts(t, "Put", x, api.Conn{Zone: -1}, api.ErrClosed)
		if e := x.Tick(1); e != api.ErrClosed {
			t.Errorf("Tick: %d", e)
		}
		if e := x.Tick(-1); e != api.ErrClosed {
			t.Errorf("Tick: %d", e)
		}
		if x.Now() != 0 || x.Count(5) != 0 || len(x.All(5)) != 0 || x.Drop(5) != 0 || x.Fork() != nil {
			t.Errorf("%d, %d, %v, %v", x.Now(), x.Count(5), x.All(5), x.Fork())
		}
	}
}

// P12.6: zones do not see one another.
func TestZones(t *testing.T) {
	x := newTable(t, 1)
	s := looked(t, x, 0, udp(1, 2))
	for _, zone := range []int{0, 65535, 7} {
		if looked(t, x, zone, udp(1, 2)).Ct != api.CtNew || looked(t, x, zone, backOf(udp(1, 2))).Ct != api.CtNew {
			t.Errorf("zone %d sees another one's", zone)
		}
		commits(t, "Commit", x, zone, s, api.OK)
		if x.Count(zone) != 1 || looked(t, x, zone, udp(1, 2)).Ct != api.CtEst {
			t.Errorf("zone %d does not see its own", zone)
		}
	}
	if x.Drop(0) != 1 || x.Count(7) != 1 || x.Count(65535) != 1 || x.Count(0) != 0 {
		t.Errorf("Drop of another zone")
	}
}

// R3: what is answered is nobody else's.
func TestAnswersAreNew(t *testing.T) {
	x := newTable(t, 4)
	puts(t, "Put", x, conn(5, tuple(17, 1, 2, 3, 4), 9), api.OK)
	puts(t, "Put", x, conn(5, tuple(17, 1, 2, 3, 5), 9), api.OK)
	l, m := x.All(5), x.All(5)
	clear(l[:cap(l)])
	if !slices.Equal(m, x.All(5)) || len(m) != 2 || m[0].Zone != 5 {
		t.Errorf("%+v, %+v", m, x.All(5))
	}
}
