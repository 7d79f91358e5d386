package fabric_test

import (
	"encoding/hex"
	"slices"
	"strings"
	"testing"

	"skein/api"
	"skein/dpath"
	"skein/fabric"
	"skein/geneve"
	"skein/keys"
	"skein/lower"
	"skein/packet"
)

// P23.2: ports that there are and are not, with frames and with bytes that are none.
func TestWhere(t *testing.T) {
	f := fabricOf(t, 1, two(), programs{0: {always(0, look(0), commit(0), goTo(1)), always(1, output(1))}})
	frame := printed(t, udp(1, 2, 3, 4))
	if x := inject(f, "a", frame); !slices.Equal(x.out, []api.Emission{{Port: "a", Frame: string(frame)}}) || len(x.wires) != 0 || x.goes != 1 || x.e != api.OK {
		t.Errorf("%+v", x)
	}
	wrong := slices.Clone(frame)
	wrong[30]++
	for what, b := range map[string][]byte{"nothing": nil, "short": frame[:13], "cut": frame[:30], "another check sum": wrong, "too long": make([]byte, api.MaxFrame+1)} {
		if x := inject(f, "a", b); len(x.out) != 0 || len(x.wires) != 0 || x.goes != 0 || x.e != api.OK {
			t.Errorf("%s: %+v", what, x)
		}
		for _, port := range []string{"c", "", "A", "a "} {
			if x := inject(f, port, b); len(x.out) != 0 || x.e != api.ErrPort {
				t.Errorf("%s, at %q: %+v", what, port, x)
			}
		}
	}
	if x := inject(f, "c", frame); len(x.out) != 0 || len(x.wires) != 0 || x.goes != 0 || x.e != api.ErrPort {
		t.Errorf("no port: %+v", x)
	}
	if x := inject(f, "b", frame); len(x.out) != 0 || len(x.wires) != 0 || x.goes != 0 || x.e != api.OK {
		t.Errorf("a host without a program: %+v", x)
	}
}

// fresh is the terms of a State of which nothing is known but where it is.
func fresh(dp, in, out uint64) []api.Term {
	l := []api.Term{term(api.CtState, 0, all8), term(api.Datapath, dp, all24), term(api.InPort, in, all16), term(api.OutPort, out, all16)}
	for reg := api.Reg0; reg <= api.Reg3; reg++ {
		l = append(l, term(reg, 0, all32))
	}
	return l
}

// P23.2: what a run begins with: at a port in table 0, from a wire in table 10, in neither case with more than is told.
func TestBegins(t *testing.T) {
	known := []api.Act{set(api.CtState, 255, all8), set(api.Reg0, 1, all32), set(api.Reg1, 2, all32), set(api.Reg2, 3, all32), set(api.Reg3, 4, all32)}
	elsewhere := func(l []api.Flow) []api.Flow {
		for table := range api.MaxTables {
			if table != 0 && table != 10 {
				l = append(l, always(table, output(4)))
			}
		}
		return l
	}
	for _, x := range []struct{ dp, in, out, farIn uint64 }{{0, 0, 0, 0}, {7, 5, 6, 5}, {all24, 32767, 65535, 32767}, {1, 32768, 1, 0}, {1, 65535, 2, 32767}} {
		places := []api.Place{{Name: "a", Key: int(x.in), Dp: int(x.dp), Host: 3}, {Name: "z", Key: 77, Host: 9}}
		send := append(slices.Clone(known), set(api.OutPort, x.out, all16), tunnel(9))
		f := fabricOf(t, 1, places, programs{
			3: elsewhere([]api.Flow{when(0, fresh(x.dp, x.in, 0), send...)}),
			9: elsewhere([]api.Flow{when(10, fresh(x.dp, x.farIn, x.out), output(77)), when(0, nil, output(77))}),
		})
		for _, p := range []api.Packet{plain("body"), udp(1, 2, 3, 4), {Eth: api.Eth{Src: 1, Dst: 2, Tagged: true, Tag: 7, Type: api.TypeArp}, IsArp: true, Pad: "pad"}} {
			frame := printed(t, p)
			if got := inject(f, "a", frame); !slices.Equal(got.out, []api.Emission{{Port: "z", Frame: string(frame)}}) || got.e != api.OK || got.goes != 0 {
				t.Errorf("%+v: %+v", x, got)
			}
		}
	}
}

// P23.2: what was known of a connection is not told by tunnels: where a packet was not looked up, it can't be committed.
func TestForgets(t *testing.T) {
	f := fabricOf(t, 1, two(), programs{0: {always(0, look(0), tunnel(1))}, 1: {always(10, set(api.OutPort, 2, all16), commit(1), output(2))}})
	if x := inject(f, "a", printed(t, udp(1, 2, 3, 4))); len(x.out) != 1 || len(f.Conns(1, 2)) != 0 {
		t.Errorf("%+v, %+v", x, f.Conns(1, 2))
	}
}

// bytesOf is bytes that are written as digits, with blanks between them.
func bytesOf(t *testing.T, l ...string) string {
	t.Helper()
	b, err := hex.DecodeString(strings.ReplaceAll(strings.Join(l, ""), " ", ""))
	if err != nil {
		t.Fatal(err)
	}
	return string(b)
}

// P23.2: a packet on a wire, byte by byte.
func TestWire(t *testing.T) {
	f := fabricOf(t, 1, []api.Place{{Name: "a", Key: 0x1234, Dp: 0xabcdef, Host: 2}}, programs{2: {always(0, set(api.OutPort, 0x9876, all16), tunnel(63))}})
	frame := bytesOf(t, "02 00 00 00 00 0b", "02 00 00 00 00 0a", "86 dd", "aa bb")
	x := inject(f, "a", []byte(frame))
	want := bytesOf(t,
		"45 00 00 3c 00 00 40 00 40 11 24 73 0a ff 00 02 0a ff 00 3f", // the sum: ffff - db8c
		"c0 00 17 c1 00 28 00 00",
		"02 40 65 58 ab cd ef 00",
		"01 02 80 01 12 34 98 76") + frame
	if !slices.Equal(x.wires, []api.Wire{{From: 2, To: 63, Packet: want}}) || x.e != api.OK || len(x.out) != 0 {
		t.Errorf("%x\n%x", x.wires[0].Packet, want)
	}
}

// P23.2: the port that a tunnel comes from is the flow's, of the packet as it is sent.
func TestSource(t *testing.T) {
	f := fabricOf(t, 1, two(), programs{0: {always(0, tunnel(1)), when(0, []api.Term{term(api.EthType, api.TypeIp, all16), term(api.IpDst, 99, all32)}, set(api.IpDst, 98, all32), tunnel(1))}})
	seen := map[int]int{}
	for n := range 200 {
		p := udp(uint32(n), uint32(n%100), 1, 2)
		sent := p
		if n%100 == 99 {
			sent.Ip.Dst = 98
		}
		x := inject(f, "a", printed(t, p))
		got, e := geneve.Decap([]byte(x.wires[0].Packet))
		want := 49152 + int(packet.Flow(sent)%16384)
		if e != api.OK || got.Sport != want || got.Sport > 65535 || got.Frame != string(printed(t, sent)) {
			t.Fatalf("%d: from %d, not %d", n, got.Sport, want)
		}
		seen[got.Sport]++
	}
	if len(seen) < 100 {
		t.Errorf("only from %d", len(seen))
	}
}

// P23.2: where Print refuses, nothing is sent: here a frame that has grown by a tag.
func TestTooLong(t *testing.T) {
	tag := set(api.VlanTag, 65536+5, all17)
	f := fabricOf(t, 1, two(), programs{0: {always(0, tag, output(1), tunnel(1), set(api.VlanTag, 0, all17), output(1), tunnel(1))}, 1: {always(10, output(2))}})
	for size, want := range map[int]int{9018: 1, 9014: 2, 9015: 1, 60: 2} {
		frame := printed(t, plain(strings.Repeat("x", size-14)))
		x := inject(f, "a", frame)
		if len(x.wires) != want || len(x.out) != 2*want || x.e != api.OK {
			t.Errorf("of %d: %v, %v, %d", size, x.ports(), x.ways(), x.e)
		}
		if last := x.out[len(x.out)-1]; last.Frame != string(frame) {
			t.Errorf("of %d: another frame", size)
		}
	}
	// What is not sent does not count as one that did not go on the wire.
	l := make([]api.Act, 0, api.MaxActs)
	for range api.MaxActs - 2 {
		l = append(l, tunnel(9))
	}
	f = fabricOf(t, 1, two(), programs{0: {always(0, clone(l...), goTo(1)), always(1, tunnel(9), tunnel(9), tag, tunnel(9), output(1))}})
	if x := inject(f, "a", printed(t, plain(strings.Repeat("x", 9004)))); len(x.wires) != api.MaxBudget || x.e != api.OK {
		t.Errorf("%d, %d", len(x.wires), x.e)
	}
}

// P23.2: tunnels to another host, to this one, to one without a program, to none; ports that no place has.
func TestTunnels(t *testing.T) {
	for _, x := range []struct {
		what  string
		acts  []api.Act
		ports []string
		ways  [][2]int
	}{
		{"to another one", []api.Act{tunnel(1)}, []string{"b"}, [][2]int{{0, 1}}},
		{"to another one twice", []api.Act{tunnel(1), tunnel(1)}, []string{"b", "b"}, [][2]int{{0, 1}, {0, 1}}},
		{"to this one", []api.Act{tunnel(0)}, []string{"a"}, [][2]int{{0, 0}}},
		{"to one without a program", []api.Act{tunnel(2)}, nil, [][2]int{{0, 2}}},
		{"to the last one", []api.Act{tunnel(63)}, nil, [][2]int{{0, 63}}},
		{"to none", []api.Act{tunnel(64), tunnel(65535)}, nil, nil},
		{"by way of another one", []api.Act{tunnel(3)}, []string{"b"}, [][2]int{{0, 3}, {3, 1}}},
		{"at a port", []api.Act{output(1)}, []string{"a"}, nil},
		{"at no port", []api.Act{output(9), output(1), output(65535)}, []string{"a"}, nil},
		{"first here, then there", []api.Act{tunnel(1), output(1), tunnel(0), output(1)}, []string{"a", "a", "b", "a"}, [][2]int{{0, 1}, {0, 0}}},
		{"what is first on the wire comes first", []api.Act{tunnel(3), tunnel(0), tunnel(1), output(1)}, []string{"a", "a", "b", "b"}, [][2]int{{0, 3}, {0, 0}, {0, 1}, {3, 1}}},
	} {
		f := fabricOf(t, 1, two(), programs{0: {always(0, x.acts...), always(10, output(1))}, 1: {always(10, output(2))}, 3: {always(10, tunnel(1))}})
		got := inject(f, "a", printed(t, plain("body")))
		if !slices.Equal(got.ports(), x.ports) || !slices.Equal(got.ways(), x.ways) || got.e != api.OK {
			t.Errorf("%s: at %v, by %v, %d", x.what, got.ports(), got.ways(), got.e)
		}
	}
}

// P23.2: goes are those of all runs.
func TestGoes(t *testing.T) {
	f := fabricOf(t, 1, two(), programs{
		0: {always(0, goTo(1)), always(1, clone(goTo(2)), goTo(3)), always(2, tunnel(1)), always(3, tunnel(1), tunnel(2))},
		1: {always(10, clone(goTo(11)), clone(goTo(11)), output(2)), always(11, goTo(12))},
	})
	if x := inject(f, "a", printed(t, plain(""))); x.goes != 3+2*4 || len(x.out) != 2 || len(x.wires) != 3 || x.e != api.OK {
		t.Errorf("%+v", x)
	}
}

// P23.2: a run whose budget ends: what it sent ahead counts, and other runs go on.
func TestBudget(t *testing.T) {
	loop := []api.Act{output(1), tunnel(1), goTo(5)}
	f := fabricOf(t, 1, two(), programs{
		0: {always(0, tunnel(2), output(1), goTo(5)), always(5, goTo(5))},
		1: {always(0, loop...), always(5, goTo(6)), always(6, output(2), goTo(5)), always(10, output(2), goTo(5))},
		2: {always(10, output(2))},
	})
	if x := inject(f, "a", printed(t, plain(""))); !slices.Equal(x.ports(), []string{"a", "b"}) || len(x.wires) != 1 || x.goes != api.MaxBudget || x.e != api.ErrBudget {
		t.Errorf("at %v, %d, %d", x.ports(), x.goes, x.e)
	}
	// The run at a port and that of what came from the wire both end so; the former sends half a budget's States.
	if x := inject(f, "b", printed(t, plain(""))); len(x.out) != 1+2048+1+2048 || len(x.wires) != 1 || x.goes != 2*api.MaxBudget || x.e != api.ErrBudget {
		t.Errorf("%d, %d, %d, %d", len(x.out), len(x.wires), x.goes, x.e)
	}
	// One go less is not too many: each round has a Ttl less.
	hops := []api.Flow{always(10, api.Act{Kind: api.ActHop}, clone(goTo(11)), goTo(10)), always(11, goTo(12)), always(0, goTo(10))}
	f = fabricOf(t, 1, two(), programs{0: hops})
	p := udp(1, 2, 3, 4)
	p.Ip.Ttl = 255
	if x := inject(f, "a", printed(t, p)); x.goes != 1+254*3 || x.e != api.OK {
		t.Errorf("%d, %d", x.goes, x.e)
	}
}

// P23.2: of one frame 4096 packets go on wires, and no more.
func TestWireBudget(t *testing.T) {
	many := func(n int, more ...api.Act) []api.Act {
		l := make([]api.Act, 0, n)
		for range n {
			l = append(l, tunnel(1))
		}
		return append(l, more...)
	}
	for _, x := range []struct {
		what       string
		l          programs
		wires, out int
		e          api.Errno
	}{
		{"just as many", programs{0: {always(0, many(4096)...)}, 1: {always(10, output(2))}}, 4096, 4096, api.OK},
		{"one more", programs{0: {always(0, many(4095, goTo(1))...), always(1, many(2, output(1))...)}, 1: {always(10, output(2))}}, 4096, 1 + 4096, api.ErrBudget},
		{"in rounds", programs{0: {always(0, tunnel(1))}, 1: {always(10, output(2), tunnel(1))}}, 4096, 4096, api.ErrBudget},
		{"in rounds, by twos", programs{0: {always(0, tunnel(1))}, 1: {always(10, tunnel(1), tunnel(1), output(2))}}, 4096, 4096, api.ErrBudget},
		{"to and fro", programs{0: {always(0, tunnel(1)), always(10, tunnel(1))}, 1: {always(10, tunnel(0))}}, 4096, 0, api.ErrBudget},
		{"to one without a program", programs{0: {always(0, many(4095, goTo(1))...), always(1, many(2)...)}}, 4096, 0, api.ErrBudget},
	} {
		f := fabricOf(t, 1, two(), x.l)
		for range 2 {
			got := inject(f, "a", printed(t, plain("")))
			if len(got.wires) != x.wires || len(got.out) != x.out || got.e != x.e {
				t.Errorf("%s: %d on wires, %d out, %d", x.what, len(got.wires), len(got.out), got.e)
			}
		}
	}
}

// P23.4: every packet on a wire is one that Decap takes, and the frame in it one that can be read.
func TestWiresAreRight(t *testing.T) {
	f := fabricOf(t, 1, []api.Place{{Name: "a", Key: 65535, Dp: all24, Host: 63}}, programs{63: {always(0,
		tunnel(0), set(api.VlanTag, 65536, all17), set(api.OutPort, all16, all16), tunnel(63), set(api.EthDst, api.MaxMac, api.MaxMac), set(api.Datapath, 0, all24), tunnel(1),
	)}})
	for _, p := range []api.Packet{plain(""), plain(strings.Repeat("x", 9004)), udp(1<<32-1, 1<<32-1, 65535, 65535), {Eth: api.Eth{Type: api.TypeArp}, IsArp: true}} {
		x := inject(f, "a", printed(t, p))
		if len(x.wires) != 3 && p.Body == "" {
			t.Errorf("%d on wires", len(x.wires))
		}
		for _, w := range x.wires {
			got, e := geneve.Decap([]byte(w.Packet))
			if e != api.OK || got.Src != 10<<24|255<<16|uint32(w.From) || got.Dst != 10<<24|255<<16|uint32(w.To) {
				t.Errorf("%d: %+v", e, got)
			}
			if _, e := packet.Parse([]byte(got.Frame)); e != api.OK {
				t.Errorf("the frame: %d", e)
			}
		}
	}
}

// P23.4: what a frame does hangs on programs, connections and the clock, not on how these came to be.
func TestHangsOnNothingElse(t *testing.T) {
	l := programs{
		0: {always(0, look(0), commit(0), goTo(1)), when(1, []api.Term{term(api.CtState, 2, 2)}, output(1)), always(1, tunnel(1))},
		1: {always(10, look(1), commit(1), output(2))},
	}
	f := fabricOf(t, 2, two(), l)
	g, _ := fabric.New(2)
	for _, host := range []int{1, 0} {
		g.Install(host, []api.Flow{always(0, output(1))})
		g.Install(host, l[host][:1])
		g.Install(host, []api.Flow{always(0), always(0)})
		flows := slices.Clone(l[host])
		slices.Reverse(flows)
		g.Install(host, flows)
	}
	g.Places([]api.Place{{Name: "a", Key: 5}})
	g.Places([]api.Place{two()[1], two()[0]})
	g.Places([]api.Place{{Name: "c"}, {Name: "c"}})
	g.Tick(0)
	for n := range 60 {
		p := udp(uint32(n%3), 9, 1, 2)
		if n%2 == 0 {
			p = back(p)
		}
		x := inject(f, "a", printed(t, p))
		g.Inject("a", []byte("no frame"))
		g.Inject("nobody", printed(t, p))
		g = g.Fork()
		y := inject(g, "a", printed(t, p))
		if !slices.Equal(x.out, y.out) || !slices.Equal(x.wires, y.wires) || x.goes != y.goes || x.e != y.e {
			t.Fatalf("%d: %+v, %+v", n, x, y)
		}
		f.Tick(n)
		g.Tick(n / 2)
		g.Tick(-1)
		g.Tick(n - n/2)
		for _, at := range [][2]int{{0, 1}, {1, 0}, {1, 2}} {
			if !slices.Equal(f.Conns(at[0], at[1]), g.Conns(at[0], at[1])) {
				t.Fatalf("%d: connections of %v", n, at)
			}
		}
	}
}

// The chapter's example: two hosts, a VIF on each; a frame from one to the other goes over one wire, and comes out as it
// came in.
func TestExample(t *testing.T) {
	rows := []api.Row{
		{Kind: api.RowSwitch, Name: "s"},
		{Kind: api.RowPort, Name: "a", Owner: "s", Mac: 0x0a, Ip: 1}, {Kind: api.RowPort, Name: "b", Owner: "s", Mac: 0x0b, Ip: 2},
		{Kind: api.RowBind, Name: "a", Num: 0}, {Kind: api.RowBind, Name: "b", Num: 1},
	}
	k, _ := keys.Update(api.Keys{}, rows)
	places := []api.Place{{Name: "a", Key: 1, Dp: 1, Host: 0}, {Name: "b", Key: 2, Dp: 1, Host: 1}}
	f := fabricOf(t, 1, places, programs{0: lower.Program(rows, k, 0), 1: lower.Program(rows, k, 1)})
	if !slices.EqualFunc(f.Flows(1), lower.Program(rows, k, 1), dpath.Same) {
		t.Errorf("flows: %d", len(f.Flows(1)))
	}
	frame := printed(t, plain("body"))
	x := inject(f, "a", frame)
	if !slices.Equal(x.out, []api.Emission{{Port: "b", Frame: string(frame)}}) || !slices.Equal(x.ways(), [][2]int{{0, 1}}) || x.e != api.OK {
		t.Errorf("%+v", x)
	}
	got, _ := geneve.Decap([]byte(x.wires[0].Packet))
	if got.Vni != 1 || got.Frame != string(frame) || !slices.Equal(got.Options, geneve.Ports(1, 2)) {
		t.Errorf("%+v", got)
	}
}
