package fabric

import (
	"skein/api"
	"skein/geneve"
	"skein/packet"
)

// The tables in which runs begin: of what comes in at a port, and of what comes from a wire.
const (
	tableIn   = 0
	tableFrom = 10
)

// The first port that tunnels come from, and how many there are. Packets of one flow come from the same.
const (
	firstSource = 49152
	sources     = 16384
)

// subnet is 10.255.0.0: the hosts' addresses are in it.
const subnet uint32 = 10<<24 | 255<<16

// transit is a frame's way over the hosts.
type transit struct {
	*Fabric
	emissions []api.Emission
	wires     []api.Wire // all packets that were on wires; those that have not come to their hosts yet are the last ones
	goes      int
	fault     api.Errno
}

// run has a host's program run, and sends what that sends.
func (t *transit) run(on, table int, s api.State) {
	h := t.hosts[on]
	sent, goes, fault := h.program.Run(h.Table, table, s)
	t.goes += goes
	// A host without a program tells another fault, and does nothing.
	if fault == api.ErrBudget {
		t.fault = fault
	}
	emit := func(e api.Emission) {
		t.emissions = append(t.emissions, e)
	}
	for _, x := range sent {
		if x.Tunnel {
			t.tunnel(on, x, t.carry)
		} else {
			t.output(x, emit)
		}
	}
}

// output emits a packet at a port, if there is such a port, and the packet is a frame still.
func (t *transit) output(x api.Sent, emit func(e api.Emission)) {
	port, ok := t.keyed[x.Port]
	frame, fault := packet.Print(x.State.P)
	if ok && fault == api.OK {
		emit(api.Emission{Port: port.Name, Frame: string(frame)})
	}
}

// tunnel puts a packet into a tunnel to another host, if there is such a host, and the packet is a frame still.
func (t *transit) tunnel(from int, x api.Sent, carry func(w api.Wire)) {
	frame, fault := packet.Print(x.State.P)
	if fault != api.OK || !isHost(x.Port) {
		return
	}
	b, fault := geneve.Encap(api.Tunnel{
		Src:     address(from),
		Dst:     address(x.Port),
		Sport:   firstSource + int(packet.Flow(x.State.P)%sources),
		Vni:     x.State.Dp,
		Options: geneve.Ports(x.State.In, x.State.Out),
		Frame:   string(frame),
	})
	if fault == api.OK {
		carry(api.Wire{From: from, To: x.Port, Packet: string(b)})
	}
}

func address(host int) uint32 {
	return subnet | uint32(host)
}

// carry puts a packet on the wire, if it may have one more.
func (t *transit) carry(w api.Wire) {
	if len(t.wires) == api.MaxBudget {
		t.fault = api.ErrBudget
		return
	}
	t.wires = append(t.wires, w)
}

// goOn has packets come to their hosts, the first one on the wire first, till there is none.
func (t *transit) goOn() {
	arrived := 0
next:
	if arrived == len(t.wires) {
		return
	}
	t.arrive(t.wires[arrived])
	arrived++
	goto next
}

// arrive has a packet from a wire come to its host.
func (t *transit) arrive(w api.Wire) {
	x, fault := geneve.Decap([]byte(w.Packet))
	if fault != api.OK {
		return
	}
	p, fault := packet.Parse([]byte(x.Frame))
	if fault != api.OK {
		return
	}
	in, out := portsOn(x)
	t.run(w.To, tableFrom, api.State{P: p, Dp: x.Vni, In: in, Out: out})
}

// portsOn is the ports that a tunnel's option says.
func portsOn(x api.Tunnel) (in, out int) {
	option := geneve.Ports(0, 0)[0]
	both, _ := geneve.Key(x.Options, option.Class, option.Code)
	return int(both >> 16), int(both & 0xffff)
}
