package sem

import (
	"skein/api"
	"skein/lrt"
	"skein/packet"
)

const (
	timeIsUp    = 11
	unreachable = 3
	leastTtl    = 2 // that a packet goes on with
)

// enter has a frame come into a router at a port.
func (j *journey) enter(p api.Row, f frame) {
	if f.Eth.Dst != p.Mac || !f.IsIp || f.Eth.Tagged {
		return
	}
	r := j.routers[p.Owner]
	if r.has(f.Ip.Dst) {
		answer, ok := packet.Echo(f.Packet)
		j.turnBack(p, f, answer, ok)
		return
	}
	f.Ip.Dst = r.internal(p, f.Ip.Dst)
	if f.Ip.Ttl < leastTtl {
		j.tell(p, f, timeIsUp)
		return
	}
	out, via, ok := lrt.Next(r.rows, r.Name, f.Ip.Dst)
	if !ok {
		j.tell(p, f, unreachable)
		return
	}
	j.sendOn(r, out, via, f)
}

// has tells whether an address is that of one of a router's ports.
func (r *lrouter) has(ip uint32) bool {
	_, ok := first(r.ports, func(p api.Row) bool { return p.Ip == ip })
	return ok
}

// internal is the address that one has behind a NAT at a port: itself, if there is none.
func (r *lrouter) internal(p api.Row, ip uint32) uint32 {
	nat, ok := first(r.nats, func(n api.Row) bool { return n.Peer == p.Name && n.Ip == ip })
	if !ok {
		return ip
	}
	return nat.Ip2
}

// external is the address that one has ahead of a NAT at a port: itself, if there is none.
func (r *lrouter) external(p api.Row, ip uint32) uint32 {
	nat, ok := first(r.nats, func(n api.Row) bool { return n.Peer == p.Name && n.Ip2 == ip })
	if !ok {
		return ip
	}
	return nat.Ip
}

// tell has a frame's sender be told of a fault.
func (j *journey) tell(p api.Row, f frame, fault int) {
	answer, ok := packet.Error(f.Packet, p.Mac, p.Ip, fault, 0)
	j.turnBack(p, f, answer, ok)
}

// turnBack has the answer to a frame, if there is one, go back by the port by which that came. It counts as having
// passed the routers that the frame passed.
func (j *journey) turnBack(p api.Row, f frame, answer api.Packet, ok bool) {
	if ok {
		f.Packet = answer
		j.back(p, f)
	}
}

// sendOn has a router send a frame on, out of a port to a next hop.
func (j *journey) sendOn(r *lrouter, out string, via uint32, f frame) {
	mac, ok := lrt.Resolve(r.rows, out, via)
	if !ok || f.hops == api.MaxHops {
		return
	}
	p, _ := first(r.ports, func(p api.Row) bool { return p.Name == out })
	f.Ip.Ttl--
	f.Eth.Dst, f.Eth.Src = mac, p.Mac
	f.Ip.Src = r.external(p, f.Ip.Src)
	f.hops++
	j.back(p, f)
}

// back has a frame come from a router's port into the switch whose link leads to that, if there is one.
func (j *journey) back(p api.Row, f frame) {
	if link, ok := j.Link(p.Name); ok {
		s, from := j.portOf(link.Name)
		j.goOn(s, from, f)
	}
}
