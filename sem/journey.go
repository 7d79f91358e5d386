package sem

import (
	"skein/act"
	"skein/api"
	"skein/eth"
	"skein/lsw"
	"skein/network"
	"skein/packet"
)

const (
	dhcpClient = 68
	dhcpServer = 67
	toAll      = 0xffffffff
	arpRequest = 1
)

// journey is a frame's way through a land, with its copies: what comes out is emitted.
type journey struct {
	zones
	*land
	emit func(e api.Emission)
}

// frame is a packet within a network, and how many routers have sent it on.
type frame struct {
	api.Packet
	hops int
}

// comeIn has a packet come into a switch at a VIF.
func (j *journey) comeIn(s *lswitch, p network.Port, x api.Packet) {
	if !mayCome(p, x) {
		return
	}
	state := j.know(s, p, api.State{P: x, In: p.Key})
	v := judge(s.from, state)
	if v == isDropped {
		return
	}
	state, isPicked := s.balance(state)
	if (v == isCommitted || isPicked) && !j.commit(p.Key, state) {
		return
	}
	x = state.P
	if mac, ok := s.answersArp(p, x); ok {
		j.answer(s, p, x, api.Act{Kind: api.ActArp, Value: mac})
		return
	}
	if p.Flag2 && asksLease(x) {
		lease, from, _ := lsw.Lease(s.rows, p.Name)
		j.answer(s, p, x, api.Act{Kind: api.ActDhcp, Lease: lease, Value: from})
		return
	}
	j.goOn(s, p, frame{Packet: x})
}

// mayCome tells whether a VIF may send a packet: with port security, from its own addresses alone, or asking for one.
func mayCome(p network.Port, x api.Packet) bool {
	if eth.Multicast(x.Eth.Src) {
		return false
	}
	if !p.Flag {
		return true
	}
	if x.Eth.Src != p.Mac {
		return false
	}
	switch {
	case x.IsArp:
		return x.Arp.Sha == p.Mac && x.Arp.Spa == p.Ip
	case x.IsIp:
		return x.Ip.Src == p.Ip || x.Ip.Src == 0 && asksLease(x)
	}
	return true
}

// asksLease tells whether a packet is of those that DHCP clients send to whoever hears them.
func asksLease(x api.Packet) bool {
	return x.IsIp && x.L4.Kind == api.KindUdp && x.L4.Sport == dhcpClient && x.L4.Dport == dhcpServer && x.Ip.Dst == toAll
}

// know is a State with what a VIF's zone knows of it, if the switch is stateful.
func (j *journey) know(s *lswitch, p network.Port, state api.State) api.State {
	if !s.isStateful || !state.P.IsIp {
		return state
	}
	return j.look(p.Key, state)
}

// balance has a packet go to one of a VIP's Ways, or, if its connection does so already, to the VIF that has it. True:
// it was picked just now.
func (s *lswitch) balance(state api.State) (api.State, bool) {
	const known = api.CtEst | api.CtNat
	if state.Ct&api.CtNew != 0 {
		vip, ok := first(s.vips, func(r api.Row) bool { return isFor(r, state.P) })
		if !ok {
			return state, false
		}
		// A VIP has Ways, and its packets are UDP or TCP: nothing is refused.
		state, _ = act.Step(state, api.Act{Kind: api.ActPick, Ways: vip.Ways})
		return s.aim(state), true
	}
	if state.Ct&(known|api.CtReply) == known && s.isWay(state.P.Ip.Dst) {
		return s.aim(state), false
	}
	return state, false
}

// isFor tells whether a packet asks for a VIP.
func isFor(vip api.Row, x api.Packet) bool {
	return x.Ip.Proto == vip.Num && x.Ip.Dst == vip.Ip && x.L4.Dport == vip.Num2
}

// isWay tells whether an Ip is that of a Way of a VIP.
func (s *lswitch) isWay(ip uint32) bool {
	_, ok := first(s.vips, func(r api.Row) bool {
		_, ok := first(r.Ways, func(w api.Way) bool { return w.Ip == ip })
		return ok
	})
	return ok
}

// aim has a packet go to the VIF that has its destination.
func (s *lswitch) aim(state api.State) api.State {
	vif, _ := s.portAt(state.P.Ip.Dst)
	state.P.Eth.Dst = vif.Mac
	return state
}

// answersArp tells whether the switch answers an ARP request that came in at a port, and for which Mac.
func (s *lswitch) answersArp(p network.Port, x api.Packet) (uint64, bool) {
	if !x.IsArp || x.Arp.Op != arpRequest {
		return 0, false
	}
	if q, ok := s.portAt(x.Arp.Tpa); ok {
		return q.Mac, q.Key != p.Key
	}
	vip, ok := first(s.vips, func(r api.Row) bool { return r.Ip == x.Arp.Tpa })
	if !ok {
		return 0, false
	}
	vif, _ := s.portAt(vip.Ways[0].Ip)
	return vif.Mac, true
}

// answer has what an action makes of a packet go out where that came in.
func (j *journey) answer(s *lswitch, p network.Port, x api.Packet, a api.Act) {
	state, fault := act.Step(api.State{P: x}, a)
	if fault == api.OK {
		j.goOut(s, p, p, state.P)
	}
}

// goOn has a frame go on in a switch, as from a port: to all others, or to one of them.
func (j *journey) goOn(s *lswitch, from network.Port, f frame) {
	for _, q := range s.ports {
		isMeant := eth.Multicast(f.Eth.Dst) || q.Mac == f.Eth.Dst
		switch {
		case q.Key == from.Key || !isMeant:
		case network.IsVif(q.Row):
			j.goOut(s, from, q, f.Packet)
		default:
			j.enter(q.Far.Row, f)
		}
	}
}

// goOut has a packet go out at a VIF, if that is bound.
func (j *journey) goOut(s *lswitch, from, to network.Port, x api.Packet) {
	if !j.isBound(to.Name) {
		return
	}
	state := j.know(s, to, api.State{P: x, In: from.Key, Out: to.Key})
	v := judge(s.to, state)
	if v == isDropped || v == isCommitted && !j.commit(to.Key, state) {
		return
	}
	if b, fault := packet.Print(state.P); fault == api.OK {
		j.emit(api.Emission{Port: to.Name, Frame: string(b)})
	}
}
