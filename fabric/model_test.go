package fabric_test

import (
	"math/rand"
	"slices"
	"testing"

	"skein/api"
	"skein/ct"
	"skein/dpath"
	"skein/fabric"
	"skein/geneve"
	"skein/packet"
)

// model is a fabric as the document's words have it: hosts' flows, from which a program is made for each run, and States
// that lie on the wire as they are.
type model struct {
	flows  map[int][]api.Flow
	conns  map[int]*ct.Table
	places []api.Place
}

// letter is a State on the wire.
type letter struct {
	from, to int
	s        api.State
}

func (m *model) inject(port string, frame []byte) (told, []letter) {
	at := slices.IndexFunc(m.places, func(p api.Place) bool { return p.Name == port })
	if at < 0 {
		return told{e: api.ErrPort}, nil
	}
	p, e := packet.Parse(frame)
	if e != api.OK {
		return told{}, nil
	}
	here := m.places[at]
	var all told
	var sent []letter
	m.run(here.Host, 0, api.State{P: p, Dp: here.Dp, In: here.Key}, &all, &sent)
	for n := 0; n < len(sent); n++ {
		x := sent[n]
		m.run(x.to, 10, api.State{P: x.s.P, Dp: x.s.Dp, In: x.s.In % 32768, Out: x.s.Out}, &all, &sent)
	}
	return all, sent
}

func (m *model) run(host, table int, s api.State, all *told, sent *[]letter) {
	if m.flows[host] == nil {
		return
	}
	p, _ := dpath.New(m.flows[host])
	l, goes, e := p.Run(m.conns[host], table, s)
	all.goes += goes
	all.e = max(all.e, e)
	for _, x := range l {
		b, e := packet.Print(x.State.P)
		switch {
		case e != api.OK:
		case x.Tunnel && x.Port > 63:
		case x.Tunnel && len(*sent) == 4096:
			all.e = api.ErrBudget
		case x.Tunnel:
			*sent = append(*sent, letter{host, x.Port, x.State})
		default:
			for _, p := range m.places {
				if p.Key == x.Port {
					all.out = append(all.out, api.Emission{Port: p.Name, Frame: string(b)})
				}
			}
		}
	}
}

// anyActs is a list of actions, of few hosts, ports and tables, so that they meet; Clones lie so deep.
func anyActs(r *rand.Rand, depth int) []api.Act {
	var l []api.Act
	for range r.Intn(4) {
		switch r.Intn(12) {
		case 0, 1:
			l = append(l, output(r.Intn(6)))
		case 2, 3:
			l = append(l, tunnel([]int{0, 1, 2, 3, 64}[r.Intn(5)]))
		case 4:
			l = append(l, look(r.Intn(3)))
		case 5:
			l = append(l, commit(r.Intn(3)))
		case 6:
			l = append(l, set(api.OutPort, uint64(r.Intn(3)), all16))
		case 7:
			l = append(l, set(api.InPort, []uint64{0, 1, 32768, 65535}[r.Intn(4)], all16))
		case 8:
			l = append(l, set(api.Reg0, uint64(r.Intn(2)), all32), set(api.Datapath, uint64(r.Intn(3)), all24))
		case 9:
			l = append(l, api.Act{Kind: api.ActHop})
		case 10:
			if depth > 0 {
				l = append(l, clone(anyActs(r, depth-1)...))
			}
		case 11:
			l = append(l, goTo([]int{0, 1, 2, 10, 11}[r.Intn(5)]))
		}
	}
	return l
}

func anyFlows(r *rand.Rand) []api.Flow {
	var l []api.Flow
	for _, table := range []int{0, 1, 2, 10, 11} {
		l = append(l, always(table, anyActs(r, 2)...))
		if r.Intn(2) == 0 {
			terms := [][]api.Term{{term(api.CtState, 2, 2)}, {term(api.InPort, 0, all16)}, {term(api.Datapath, 1, all24)}, {term(api.Reg0, 1, all32)}, {term(api.OutPort, 1, all16)}}
			l = append(l, when(table, terms[r.Intn(5)], anyActs(r, 2)...))
		}
	}
	return l
}

func anyPlaces(r *rand.Rand) []api.Place {
	var l []api.Place
	for key, name := range []string{"a", "b", "c", "d"} {
		l = append(l, api.Place{Name: name, Key: []int{key, key + 32768}[r.Intn(2)], Dp: r.Intn(3), Host: r.Intn(4)})
	}
	return l
}

func anyFrame(t *testing.T, r *rand.Rand) []byte {
	p := plain("body")
	if r.Intn(4) > 0 {
		p = udp(uint32(r.Intn(3)), uint32(r.Intn(3)), 1, 1)
		p.Ip.Ttl = r.Intn(30)
	}
	b := printed(t, p)
	if r.Intn(9) == 0 {
		b[r.Intn(len(b))]++
	}
	return b
}

// P23.1 to P23.4: whatever programs, places, frames and ticks there are, a fabric is as the model.
func TestAsModel(t *testing.T) {
	budgets := 0
	for seed := range int64(400) {
		r := rand.New(rand.NewSource(seed))
		f, _ := fabric.New(2)
		m := &model{flows: map[int][]api.Flow{}, conns: map[int]*ct.Table{}}
		for host := range 4 {
			m.conns[host], _ = ct.New(2)
		}
		for range 30 {
			host := r.Intn(4)
			switch r.Intn(8) {
			case 0:
				m.flows[host] = anyFlows(r)
				f.Install(host, m.flows[host])
			case 1:
				m.places = anyPlaces(r)
				f.Places(m.places)
			case 2:
				n := r.Intn(20)
				f.Tick(n)
				for _, c := range m.conns {
					c.Tick(n)
				}
			case 3:
				f = f.Fork()
			default:
				port, frame := string(rune('a'+r.Intn(5))), anyFrame(t, r)
				want, sent := m.inject(port, frame)
				same(t, seed, inject(f, port, frame), want, sent)
				if want.e == api.ErrBudget {
					budgets++
				}
			}
			for zone := range 4 {
				if got, want := f.Conns(host, zone), m.conns[host].All(zone); !slices.Equal(got, want) {
					t.Fatalf("seed %d: zone %d of host %d: %+v, not %+v", seed, zone, host, got, want)
				}
			}
		}
	}
	if budgets == 0 {
		t.Errorf("no budget ended")
	}
}

// same asks that a fabric told what the model did, and that what was on its wires is what the model sent.
func same(t *testing.T, seed int64, got, want told, sent []letter) {
	t.Helper()
	if !slices.Equal(got.out, want.out) || got.goes != want.goes || got.e != want.e || len(got.wires) != len(sent) {
		t.Fatalf("seed %d: %d out, %d on wires, %d goes, %d, not %d, %d, %d, %d", seed, len(got.out), len(got.wires), got.goes, got.e, len(want.out), len(sent), want.goes, want.e)
	}
	for i, x := range sent {
		b, _ := packet.Print(x.s.P)
		p, e := geneve.Encap(api.Tunnel{
			Src: 0x0aff0000 + uint32(x.from), Dst: 0x0aff0000 + uint32(x.to), Sport: 49152 + int(packet.Flow(x.s.P)%16384),
			Vni: x.s.Dp, Options: geneve.Ports(x.s.In, x.s.Out), Frame: string(b),
		})
		if e != api.OK || got.wires[i] != (api.Wire{From: x.from, To: x.to, Packet: string(p)}) {
			t.Fatalf("seed %d: wire %d: %+v, not %+v", seed, i, got.wires[i], x)
		}
	}
}
