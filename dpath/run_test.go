package dpath_test

import (
	"math"
	"slices"
	"testing"

	"skein/api"
	"skein/ct"
	"skein/dpath"
)

// ipv4 is a State of a packet from 1 to 2 that came in at 3 and goes out at 4.
func ipv4(proto int, x api.L4) api.State {
	return api.State{P: api.Packet{
		Eth: api.Eth{Dst: 2, Src: 1, Type: api.TypeIp}, IsIp: true, Ip: api.Ip{Ttl: 9, Proto: proto, Src: 1, Dst: 2}, L4: x, Pad: "pad",
	}, Dp: 7, In: 3, Out: 4}
}

func udp() api.State {
	return ipv4(api.ProtoUdp, api.L4{Kind: api.KindUdp, Sport: 5, Dport: 6, Data: "data"})
}

// back is the State of the answer.
func back() api.State {
	s := udp()
	s.P.Ip.Src, s.P.Ip.Dst, s.P.L4.Sport, s.P.L4.Dport = 2, 1, 6, 5
	return s
}

func arp() api.State {
	return api.State{P: api.Packet{Eth: api.Eth{Dst: 2, Src: 1, Type: api.TypeArp}, IsArp: true, Arp: api.Arp{Op: 1, Sha: 1, Spa: 1, Tpa: 2}}, Dp: 7, In: 3, Out: 4}
}

// table is a ct.Table with little room.
func table(t *testing.T) *ct.Table {
	t.Helper()
	x, e := ct.New(2)
	if e != api.OK {
		t.Fatalf("%d", e)
	}
	return x
}

// sameConns asks that two Tables have the same connections in the zones that are used here.
func sameConns(t *testing.T, a, b *ct.Table) {
	t.Helper()
	for zone := range 8 {
		if x, y := a.All(zone), b.All(zone); !slices.Equal(x, y) {
			t.Errorf("zone %d: %+v, not %+v", zone, x, y)
		}
	}
}

// runs asks for a run that ends by itself behind so many goes, and answers what it sent.
func runs(t *testing.T, what string, p *dpath.Program, x *ct.Table, from int, s api.State, goes int) []api.Sent {
	t.Helper()
	l, n, e := p.Run(x, from, s)
	if n != goes || e != api.OK {
		t.Errorf("%s: %d goes, %d, not %d", what, n, e, goes)
	}
	return l
}

// out is a State that is sent at a port.
func out(port int, s api.State) api.Sent {
	return api.Sent{Port: port, State: s}
}

// sends asks what those actions send of a State, of a run in table 0.
func sends(t *testing.T, what string, x *ct.Table, s api.State, l []api.Act, want ...api.Sent) {
	t.Helper()
	if got := runs(t, what, program(t, flow(0, 1, nil, l...)), x, 0, s, 0); !slices.Equal(got, want) {
		t.Errorf("%s: %+v, not %+v", what, got, want)
	}
}

// with is a State that a function has changed.
func with(s api.State, change func(s *api.State)) api.State {
	change(&s)
	return s
}

// P13.3: what is not run.
func TestRunRefuses(t *testing.T) {
	p := program(t, flow(0, 0, nil, output(1)), flow(63, 0, nil, output(2)))
	for _, n := range []int{-1, 64, 65, math.MinInt, math.MaxInt, 1 << 32} {
		for _, x := range []*ct.Table{table(t), nil} {
			if l, goes, e := p.Run(x, n, udp()); len(l) != 0 || goes != 0 || e != api.ErrArg {
				t.Errorf("table %d: %+v, %d, %d", n, l, goes, e)
			}
		}
	}
	for _, n := range []int{0, 1, 63} {
		if l, goes, e := p.Run(nil, n, udp()); len(l) != 0 || goes != 0 || e != api.ErrArg {
			t.Errorf("nil: %+v, %d, %d", l, goes, e)
		}
	}
	for n, port := range map[int]int{0: 1, 63: 2} {
		if l := runs(t, "an edge", p, table(t), n, udp(), 0); !slices.Equal(l, []api.Sent{out(port, udp())}) {
			t.Errorf("table %d: %+v", n, l)
		}
	}
}

// P13.3: a State that finds no flow.
func TestRunFindsNone(t *testing.T) {
	p := program(t, flow(1, 1, terms(term(api.IpDst, 3, all32)), output(1)), flow(2, 1, nil))
	for _, n := range []int{0, 1, 2, 62} {
		for _, s := range []api.State{udp(), arp(), {}} {
			if l := runs(t, "none", p, table(t), n, s, 0); len(l) != 0 {
				t.Errorf("table %d: %+v", n, l)
			}
		}
	}
	if l := runs(t, "no flows", program(t), table(t), 0, udp(), 0); len(l) != 0 {
		t.Errorf("%+v", l)
	}
}

// P13.3: the first flow in the order is found: by Priority, then by the text of the Terms.
func TestRunFinds(t *testing.T) {
	p := program(t,
		flow(5, 0, nil, output(1)),
		flow(5, 8, terms(term(api.IpTtl, 9, 255)), output(2)),             // ip.ttl == 0x9
		flow(5, 8, terms(term(api.IpDst, 2, all32)), output(3)),           // ip4.dst == 0x2
		flow(5, 8, terms(term(api.EthSrc, 1, all48)), output(4)),          // eth.src == 0x1
		flow(5, 8, terms(term(api.EthSrc, 1, 3)), output(5)),              // eth.src == 0x1 / 0x3
		flow(5, 65535, terms(term(api.Reg0, 1, 1)), output(6)),            // reg0 == 0x1 / 0x1
		flow(6, 65535, nil, output(7)),                                    // another table
		flow(5, 9, terms(term(api.IpTtl, 9, 255), term(api.TpDst, 7, 7))), // ip.ttl == 0x9 && tp.dst == 0x7 / 0x7: none
	)
	for _, x := range []struct {
		what   string
		change func(s *api.State)
		port   int
	}{
		{"all of them", func(s *api.State) {}, 4},
		{"the greatest", func(s *api.State) { s.Regs[0] = 3 }, 6},
		{"under a mask", func(s *api.State) { s.P.Eth.Src = 5 }, 5},
		{"by bytes", func(s *api.State) { s.P.Eth.Src = 2 }, 2},
		{"the next one", func(s *api.State) { s.P.Eth.Src, s.P.Ip.Ttl = 2, 8 }, 3},
		{"the least", func(s *api.State) { s.P.Eth.Src, s.P.Ip.Ttl, s.P.Ip.Dst = 2, 8, 3 }, 1},
	} {
		s := with(udp(), x.change)
		if l := runs(t, x.what, p, table(t), 5, s, 0); !slices.Equal(l, []api.Sent{out(x.port, s)}) {
			t.Errorf("%s: %+v, not %d", x.what, l, x.port)
		}
	}
	if l := runs(t, "none", p, table(t), 5, with(udp(), func(s *api.State) { s.P.L4.Dport = 15 }), 0); len(l) != 0 {
		t.Errorf("%+v", l)
	}
}

// P13.3: the document's example.
func TestRunExample(t *testing.T) {
	p := program(t, flow(0, 1, nil, clone(output(1)), goTo(1)), flow(1, 1, nil, hop(), output(2)))
	less := with(udp(), func(s *api.State) { s.P.Ip.Ttl-- })
	if l := runs(t, "the example", p, table(t), 0, udp(), 1); !slices.Equal(l, []api.Sent{out(1, udp()), out(2, less)}) {
		t.Errorf("%+v", l)
	}
}

// P13.3: actions are done in order, each to what the one ahead left.
func TestRunInOrder(t *testing.T) {
	reg := func(v uint32) func(s *api.State) { return func(s *api.State) { s.Regs[0] = v } }
	sends(t, "ports and tunnels", table(t), udp(), acts(output(0), tunnel(0), output(65535), tunnel(65535)),
		out(0, udp()), api.Sent{Tunnel: true, State: udp()}, out(65535, udp()), api.Sent{Tunnel: true, Port: 65535, State: udp()})
	sends(t, "changes", table(t), udp(), acts(output(1), set(api.Reg0, 5, all32), output(2), set(api.Reg0, 2, 3), output(3)),
		out(1, udp()), out(2, with(udp(), reg(5))), out(3, with(udp(), reg(6))))
	sends(t, "of what is no packet", table(t), api.State{}, acts(output(1)), out(1, api.State{}))
}

// P13.3: a pure action that refuses ends its list alone.
func TestRunPureRefuses(t *testing.T) {
	one := with(udp(), func(s *api.State) { s.P.Ip.Ttl = 1 })
	sends(t, "no time to live", table(t), one, acts(output(1), hop(), output(2)), out(1, one))
	sends(t, "a field that it has not", table(t), arp(), acts(output(1), set(api.IpTtl, 5, 255), output(2)), out(1, arp()))
	sends(t, "an echo of UDP", table(t), udp(), acts(api.Act{Kind: api.ActEcho}, output(2)))
	sends(t, "an answer to no ARP", table(t), udp(), acts(api.Act{Kind: api.ActArp, Value: 5}, output(2)))
	sends(t, "in a Clone", table(t), one, acts(clone(output(1), hop(), output(2)), output(3)), out(1, one), out(3, one))
	sends(t, "in a Clone's Clone", table(t), one, acts(clone(clone(hop(), output(1)), output(2), hop(), output(3)), output(4)), out(2, one), out(4, one))
	p := program(t, flow(0, 1, nil, hop(), goTo(1)), flow(1, 1, nil, output(1)))
	if l := runs(t, "ahead of a go", p, table(t), 0, one, 0); len(l) != 0 {
		t.Errorf("%+v", l)
	}
	p = program(t, flow(0, 1, nil, clone(goTo(1), output(9)), output(1)), flow(1, 1, nil, output(2), hop(), output(3)))
	if l := runs(t, "in another table", p, table(t), 0, one, 1); !slices.Equal(l, []api.Sent{out(2, one), out(1, one)}) {
		t.Errorf("%+v", l)
	}
}

// P13.3: every kind of pure action is done.
func TestRunPure(t *testing.T) {
	sends(t, "Move", table(t), udp(), acts(api.Act{Kind: api.ActMove, From: api.InPort, Field: api.OutPort}, output(1)),
		out(1, with(udp(), func(s *api.State) { s.Out = 3 })))
	sends(t, "Pick", table(t), udp(), acts(pick(api.Way{Ip: 8, Port: 9}), output(1)),
		out(1, with(udp(), func(s *api.State) { s.P.Ip.Dst, s.P.L4.Dport = 8, 9 })))
	sends(t, "Arp", table(t), arp(), acts(api.Act{Kind: api.ActArp, Value: 9}, output(1)), out(1, with(arp(), func(s *api.State) {
		s.P.Eth.Dst, s.P.Eth.Src, s.P.Arp = 1, 9, api.Arp{Op: 2, Sha: 9, Spa: 2, Tha: 1, Tpa: 1}
	})))
	ping := ipv4(api.ProtoIcmp, api.L4{Kind: api.KindIcmp, Type: 8, Rest: 77})
	p := program(t, flow(0, 1, nil, api.Act{Kind: api.ActEcho}, output(1)), flow(1, 1, nil, api.Act{Kind: api.ActError, Port: 11, Value: 5, From: 6}, output(1)))
	if l := runs(t, "Echo", p, table(t), 0, ping, 0); len(l) != 1 || l[0].State.P.L4.Type != 0 || l[0].State.P.Ip.Src != 2 || l[0].State.P.L4.Rest != 77 {
		t.Errorf("Echo: %+v", l)
	}
	if l := runs(t, "Error", p, table(t), 1, udp(), 0); len(l) != 1 || l[0].State.P.L4.Type != 11 || l[0].State.P.Ip.Src != 6 {
		t.Errorf("Error: %+v", l)
	}
}

// P13.3: a Go ends its list; the State goes on as it is.
func TestRunGo(t *testing.T) {
	p := program(t,
		flow(0, 1, nil, output(1), set(api.Reg0, 7, all32), goTo(63), output(2), hop()),
		flow(63, 1, terms(term(api.Reg0, 7, all32)), output(3), goTo(62)),
		flow(63, 0, nil, output(4)),
		flow(62, 1, terms(term(api.Reg0, 8, all32)), output(5)),
	)
	seven := with(udp(), func(s *api.State) { s.Regs[0] = 7 })
	if l := runs(t, "goes", p, table(t), 0, udp(), 2); !slices.Equal(l, []api.Sent{out(1, udp()), out(3, seven)}) {
		t.Errorf("%+v", l)
	}
	if l := runs(t, "from there", p, table(t), 63, udp(), 0); !slices.Equal(l, []api.Sent{out(4, udp())}) {
		t.Errorf("%+v", l)
	}
}

// P13.3: a Clone leaves the State as it was, whatever becomes of the copy.
func TestRunClone(t *testing.T) {
	reg := func(v uint32) api.State { return with(udp(), func(s *api.State) { s.Regs[0] = v }) }
	put := func(v uint64) api.Act { return set(api.Reg0, v, all32) }
	sends(t, "nothing", table(t), udp(), acts(clone(), output(1)), out(1, udp()))
	sends(t, "a copy", table(t), udp(), acts(put(1), clone(output(1), put(2), output(2)), output(3), clone(put(4), output(4))),
		out(1, reg(1)), out(2, reg(2)), out(3, reg(1)), out(4, reg(4)))
	sends(t, "four deep", table(t), udp(), acts(clone(put(1), clone(put(2), clone(put(3), clone(put(4), output(4)), output(3)), output(2)), output(1)), output(0)),
		out(4, reg(4)), out(3, reg(3)), out(2, reg(2)), out(1, reg(1)), out(0, udp()))
	p := program(t,
		flow(0, 1, nil, clone(put(1), goTo(1), output(9)), clone(put(2), clone(goTo(1)), goTo(7), output(9)), output(1), put(3), goTo(1)),
		flow(1, 1, nil, output(2), clone(goTo(2)), put(5), output(3)),
		flow(2, 1, nil, output(4)),
	)
	want := []api.Sent{
		out(2, reg(1)), out(4, reg(1)), out(3, reg(5)),
		out(2, reg(2)), out(4, reg(2)), out(3, reg(5)),
		out(1, udp()),
		out(2, reg(3)), out(4, reg(3)), out(3, reg(5)),
	}
	if l := runs(t, "a Go in a Clone", p, table(t), 0, udp(), 7); !slices.Equal(l, want) {
		t.Errorf("%+v", l)
	}
}

// connOf is the connection of udp in a zone.
func connOf(zone int) api.Conn {
	x := api.Tuple{Proto: api.ProtoUdp, Src: 1, Dst: 2, Sport: 5, Dport: 6}
	return api.Conn{Zone: zone, Orig: x, Reply: ct.Turned(x), Expires: 30}
}

// looked is udp as a zone without its connection leaves it.
func looked() api.State {
	return with(udp(), func(s *api.State) { s.Ct, s.Orig = api.CtNew, connOf(0).Orig })
}

// P13.3: connections are looked up in the zone of the port.
func TestRunLook(t *testing.T) {
	est := with(looked(), func(s *api.State) { s.Ct = api.CtEst })
	for port, zone := range map[int]int{0: 3, 1: 4} {
		x := table(t)
		sends(t, "new", x, udp(), acts(look(port), output(1)), out(1, looked()))
		x.Put(connOf(zone))
		x.Tick(5)
		sends(t, "the other zone", x, udp(), acts(look(1-port), output(1)), out(1, looked()))
		if l := x.All(zone); len(l) != 1 || l[0].Expires != 30 {
			t.Errorf("%+v", l)
		}
		sends(t, "there", x, udp(), acts(look(port), output(1)), out(1, est))
		if l := x.All(zone); len(l) != 1 || l[0].Expires != 35 {
			t.Errorf("%+v", l)
		}
		sends(t, "the answer", x, back(), acts(look(port), output(1)), out(1, with(back(), func(s *api.State) {
			s.Ct, s.Orig = api.CtEst|api.CtReply, connOf(0).Reply
		})))
	}
	for _, port := range []int{2, 3, 65535} {
		sends(t, "another Port", table(t), udp(), acts(output(1), look(port), output(2)), out(1, udp()))
		sends(t, "another Port, in a Clone", table(t), udp(), acts(clone(look(port), output(1)), output(2)), out(2, udp()))
		sends(t, "another Port, without a tuple", table(t), arp(), acts(look(port), output(1)))
	}
}

// P13.3: a packet without a tuple goes on, with what was known of it gone.
func TestRunLookPrereq(t *testing.T) {
	part := with(udp(), func(s *api.State) { s.P.Ip.Frag = 0x2000 })
	for _, s := range []api.State{arp(), part, {In: 3, Out: 4}, ipv4(47, api.L4{Data: "x"})} {
		for port := range 2 {
			old := s
			old.Ct, old.Orig, old.Regs[1] = 15, connOf(0).Orig, 5
			want := s
			want.Regs[1] = 5
			sends(t, "without a tuple", table(t), old, acts(look(port), output(1)), out(1, want))
		}
	}
}

// P13.3: a zone that there is not.
func TestRunNoZone(t *testing.T) {
	for _, n := range []int{-1, 65536, math.MinInt, math.MaxInt} {
		for _, s := range []api.State{looked(), arp()} {
			in, away := with(s, func(s *api.State) { s.In = n }), with(s, func(s *api.State) { s.Out = n })
			for _, a := range []func(port int) api.Act{look, commit} {
				sends(t, "no zone", table(t), in, acts(output(1), a(0), output(2)), out(1, in))
				sends(t, "no zone", table(t), away, acts(output(1), a(1), output(2)), out(1, away))
			}
		}
		if got := runs(t, "the other zone", program(t, flow(0, 1, nil, look(0), output(1))), table(t), 0, with(udp(), func(s *api.State) { s.Out = n }), 0); len(got) != 1 {
			t.Errorf("%+v", got)
		}
	}
	for _, n := range []int{0, 65535} {
		x := table(t)
		s := with(looked(), func(s *api.State) { s.In = n })
		sends(t, "an edge", x, s, acts(commit(0), look(0), output(1)), out(1, with(s, func(s *api.State) { s.Ct = api.CtEst })))
		if l := x.All(n); !slices.Equal(l, []api.Conn{connOf(n)}) {
			t.Errorf("%+v", l)
		}
	}
}

// P13.3: connections are committed in the zone of the port, and the State goes on as it is.
func TestRunCommit(t *testing.T) {
	for port, zone := range map[int]int{0: 3, 1: 4} {
		x := table(t)
		sends(t, "new", x, looked(), acts(output(1), commit(port), output(2)), out(1, looked()), out(2, looked()))
		if x.Count(3)+x.Count(4) != 1 || !slices.Equal(x.All(zone), []api.Conn{connOf(zone)}) {
			t.Errorf("%+v, %+v", x.All(3), x.All(4))
		}
		sends(t, "there", x, looked(), acts(commit(port), output(2)), out(2, looked()))
	}
	for _, port := range []int{2, 3, 65535} {
		x := table(t)
		for _, s := range []api.State{looked(), arp()} {
			sends(t, "another Port", x, s, acts(output(1), commit(port), output(2)), out(1, s))
			sends(t, "another Port, in a Clone", x, s, acts(clone(commit(port), output(1)), output(2)), out(2, s))
		}
		sameConns(t, x, table(t))
	}
	for _, s := range []api.State{arp(), udp(), {In: 3, Out: 4}, with(looked(), func(s *api.State) { s.Orig.Proto = api.ProtoTcp }), with(looked(), func(s *api.State) { s.P.Ip.Frag = 1 })} {
		x := table(t)
		sends(t, "without a tuple", x, s, acts(commit(0), commit(1), output(1)), out(1, s))
		sameConns(t, x, table(t))
	}
}

// P13.3: a Commit that ct refuses ends its list.
func TestRunCommitRefuses(t *testing.T) {
	x := table(t)
	other := func(port int) api.State {
		return with(looked(), func(s *api.State) { s.P.L4.Sport, s.Orig.Sport = port, port })
	}
	sends(t, "the room", x, other(100), acts(commit(0), output(1)), out(1, other(100)))
	sends(t, "the room", x, other(101), acts(commit(0), output(1)), out(1, other(101)))
	full := x.Fork()
	sends(t, "a full zone", x, looked(), acts(output(1), commit(0), output(2)), out(1, looked()))
	sends(t, "a full zone, in a Clone", x, looked(), acts(clone(commit(0), output(1)), output(2)), out(2, looked()))
	sends(t, "a full zone, of one that is there", x, other(100), acts(commit(0), output(2)), out(2, other(100)))
	sends(t, "a full zone, without a tuple", x, arp(), acts(commit(0), output(2)), out(2, arp()))
	sameConns(t, x, full)
	sends(t, "the other zone", x, looked(), acts(commit(1), output(2)), out(2, looked()))
	y := table(t)
	y.Put(connOf(3))
	clash := with(looked(), func(s *api.State) { s.Orig.Sport = 99 })
	sends(t, "answers that would not be known apart", y, clash, acts(output(1), commit(0), output(2)), out(1, clash))
	if y.Count(3) != 1 {
		t.Errorf("%+v", y.All(3))
	}
}

// P13.3: what a Clone commits is there for what comes behind it, and for the next run.
func TestRunConnsStay(t *testing.T) {
	x := table(t)
	p := program(t, flow(0, 1, nil, look(0), clone(commit(0), goTo(1)), clone(goTo(1)), look(0), goTo(1)),
		flow(1, 2, terms(term(api.CtState, api.CtEst, api.CtEst)), output(1)), flow(1, 1, nil, output(2)))
	for _, want := range [][]int{{2, 2, 1}, {1, 1, 1}} {
		var ports []int
		for _, s := range runs(t, "stays", p, x, 0, udp(), 3) {
			ports = append(ports, s.Port)
		}
		if !slices.Equal(ports, want) {
			t.Errorf("%v, not %v", ports, want)
		}
	}
	x.Tick(30)
	if l := runs(t, "gone", p, x, 0, udp(), 3); l[0].Port != 2 {
		t.Errorf("%+v", l)
	}
}

// P13.3: as many goes as there may be, and one more.
func TestBudget(t *testing.T) {
	p := program(t, flow(0, 1, nil, output(1), hop(), goTo(0)))
	of := func(ttl int) api.State { return with(udp(), func(s *api.State) { s.P.Ip.Ttl = ttl }) }
	for _, x := range []struct {
		ttl, sent, goes int
		want            api.Errno
	}{
		{1, 1, 0, api.OK}, {2, 2, 1, api.OK}, {4096, 4096, 4095, api.OK}, {4097, 4097, 4096, api.OK}, {4098, 4097, 4096, api.ErrBudget}, {9000, 4097, 4096, api.ErrBudget},
	} {
		l, n, e := p.Run(table(t), 0, of(x.ttl))
		if len(l) != x.sent || n != x.goes || e != x.want {
			t.Errorf("%+v: %d sent, %d goes, %d", x, len(l), n, e)
		}
		for i, s := range l {
			if s != out(1, of(x.ttl-i)) {
				t.Fatalf("%+v: %d: %+v", x, i, s)
			}
		}
	}
}

// P13.3, P13.5: loops of tables end, and what they sent and committed ahead counts.
func TestBudgetOfLoops(t *testing.T) {
	var ring []api.Flow
	for i := range 64 {
		ring = append(ring, flow(i, 0, nil, tunnel(i), goTo((i+1)%64)))
	}
	for _, x := range []struct {
		what string
		l    []api.Flow
		sent int
	}{
		{"a table", []api.Flow{flow(0, 0, nil, goTo(0))}, 0},
		{"all tables", ring, 4097},
		{"within a Clone", []api.Flow{flow(0, 0, nil, clone(output(2), goTo(0)), output(1))}, 4097},
		{"within four Clones", []api.Flow{flow(0, 0, nil, clone(clone(clone(clone(goTo(0)), output(1)), output(1)), output(1)), output(1))}, 0},
		{"in Clones that double", []api.Flow{flow(0, 0, nil, output(1), clone(goTo(0)), clone(goTo(0)), goTo(0))}, 4097},
		{"with connections", []api.Flow{flow(0, 0, nil, look(0), commit(0), goTo(0))}, 0},
	} {
		y := table(t)
		l, n, e := program(t, x.l...).Run(y, 0, udp())
		if len(l) != x.sent || n != 4096 || e != api.ErrBudget {
			t.Errorf("%s: %d sent, %d goes, %d", x.what, len(l), n, e)
		}
		if x.what == "with connections" && y.Count(3) != 1 {
			t.Errorf("%+v", y.All(3))
		}
	}
}

// P13.3: the goes of all Clones are counted together; behind the budget no Clone goes on.
func TestBudgetOfClones(t *testing.T) {
	many := slices.Repeat(acts(clone(goTo(1))), 2048) // 4096 actions
	p := program(t, flow(0, 1, nil, many...), flow(1, 1, nil, clone(goTo(2))), flow(2, 1, nil, output(1)))
	if l := runs(t, "4096", p, table(t), 0, udp(), 4096); len(l) != 2048 {
		t.Errorf("%d sent", len(l))
	}
	p = program(t, flow(0, 1, nil, many...), flow(1, 1, nil, clone(goTo(2)), clone(goTo(2)), output(9)), flow(2, 1, nil, output(1)), flow(3, 1, nil, clone(goTo(0)), output(8)))
	for _, from := range []int{0, 3} {
		l, n, e := p.Run(table(t), from, udp())
		if n != 4096 || e != api.ErrBudget || len(l) != 3*1365 || l[len(l)-1] != out(9, udp()) {
			t.Errorf("from %d: %d sent, %d goes, %d", from, len(l), n, e)
		}
	}
	// Behind one go too many nothing more is done: nothing is sent, and nothing committed.
	x := table(t)
	p = program(t, flow(0, 1, nil, look(0), clone(goTo(1)), commit(0), output(5)), flow(1, 1, nil, goTo(1)))
	if l, n, e := p.Run(x, 0, udp()); len(l) != 0 || n != 4096 || e != api.ErrBudget || x.Count(3) != 0 {
		t.Errorf("%+v, %d, %d", l, n, e)
	}
	if l := runs(t, "the next run", p, x, 2, udp(), 0); len(l) != 0 {
		t.Errorf("%+v", l)
	}
}

// R3, R4: what runs answer is apart, and a run leaves the Program as it is.
func TestRunApart(t *testing.T) {
	p := program(t, flow(0, 1, nil, output(1), hop(), output(2)))
	a := runs(t, "one", p, table(t), 0, udp(), 0)
	b := runs(t, "another one", p, table(t), 0, udp(), 0)
	kept := slices.Clone(b)
	a[0], a[1] = api.Sent{}, api.Sent{}
	_ = append(a[:1], out(9, api.State{}))
	if !slices.Equal(b, kept) || !slices.Equal(runs(t, "again", p, table(t), 0, udp(), 0), kept) {
		t.Errorf("%+v", b)
	}
	has(t, "behind runs", p, flow(0, 1, nil, output(1), hop(), output(2)))
}
