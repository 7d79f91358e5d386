package act

import (
	"skein/api"
	"skein/dhcp"
	"skein/field"
	"skein/packet"
	"skein/sum"
)

// The operations of ARP.
const (
	arpAsked    = 1
	arpAnswered = 2
)

// What DHCP messages are sent with.
const (
	clientPort = 68
	serverPort = 67
	answerTtl  = 64
	toAll      = 0xffffffff
)

// leastTtl is the least that a packet goes on with.
const leastTtl = 2

func set(s api.State, a api.Act) (api.State, api.Errno) {
	return field.Set(s, a.Field, a.Value, a.Mask)
}

func move(s api.State, a api.Act) (api.State, api.Errno) {
	return field.Move(s, a.From, a.Field)
}

func hop(s api.State, _ api.Act) (api.State, api.Errno) {
	if !s.P.IsIp {
		return api.State{}, api.ErrPrereq
	}
	if s.P.Ip.Ttl < leastTtl {
		return api.State{}, api.ErrTtl
	}
	s.P.Ip.Ttl--
	return s, api.OK
}

// pick has a packet go to one of the ways: all packets of a flow to the same.
func pick(s api.State, a api.Act) (api.State, api.Errno) {
	if !field.Has(s, api.TpDst) {
		return api.State{}, api.ErrPrereq
	}
	way := a.Ways[sum.Pick(packet.Flow(s.P), len(a.Ways))]
	s.P.Ip.Dst, s.P.L4.Dport = way.Ip, way.Port
	return s, api.OK
}

// become is a State with another packet: none, if there is no such packet.
func become(s api.State, p api.Packet, ok bool) (api.State, api.Errno) {
	if !ok {
		return api.State{}, api.ErrPrereq
	}
	s.P = p
	return s, api.OK
}

func answerArp(s api.State, a api.Act) (api.State, api.Errno) {
	p := s.P
	asked := p.Arp
	p.Arp = api.Arp{Op: arpAnswered, Sha: a.Value, Spa: asked.Tpa, Tha: asked.Sha, Tpa: asked.Spa}
	p.Eth.Dst, p.Eth.Src = p.Eth.Src, a.Value
	return become(s, p, p.IsArp && asked.Op == arpAsked)
}

func echo(s api.State, _ api.Act) (api.State, api.Errno) {
	p, ok := packet.Echo(s.P)
	return become(s, p, ok)
}

func tellFault(s api.State, a api.Act) (api.State, api.Errno) {
	p, ok := packet.Error(s.P, a.Value, uint32(a.From), a.Port, a.Table)
	return become(s, p, ok)
}

func answerDhcp(s api.State, a api.Act) (api.State, api.Errno) {
	data, ok := dhcpAnswer(s.P, a.Lease)
	p := s.P
	// A message that is answered has the lease's Mac as its Chaddr.
	p.Eth.Dst, p.Eth.Src = a.Lease.Mac, a.Value
	p.Ip = api.Ip{Ttl: answerTtl, Proto: api.ProtoUdp, Src: a.Lease.Server, Dst: toAll}
	p.L4 = api.L4{Kind: api.KindUdp, Sport: serverPort, Dport: clientPort, Data: data}
	return become(s, p, ok)
}

// dhcpAnswer is the bytes of the answer to a packet's DHCP message: none, if it has no such message, or one
// that is not answered.
func dhcpAnswer(p api.Packet, l api.Lease) (string, bool) {
	if !p.IsIp || p.L4.Kind != api.KindUdp || p.L4.Sport != clientPort || p.L4.Dport != serverPort {
		return "", false
	}
	m, fault := dhcp.Decode([]byte(p.L4.Data))
	if fault != api.OK {
		return "", false
	}
	answer, ok := dhcp.Answer(m, l)
	if !ok {
		return "", false
	}
	data, fault := dhcp.Encode(answer)
	return string(data), fault == api.OK
}
