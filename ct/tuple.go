package ct

import (
	"skein/api"
	"skein/ip"
	"skein/packet"
)

// The types of ICMP messages that are of a connection.
const (
	echoReply = 0
	echoAsked = 8
)

// The parts of an echo's Rest: its identifier, which stands for both ports, is above its number.
const (
	idShift    = 16
	numberMask = 1<<idShift - 1
)

// Of is a packet's tuple.
func Of(p api.Packet) (api.Tuple, bool) {
	if !p.IsIp || !ip.Whole(p.Ip) || !isTracked(p.L4) {
		return api.Tuple{}, false
	}
	sport, dport := packet.Ports(p)
	return api.Tuple{Proto: p.Ip.Proto, Src: p.Ip.Src, Dst: p.Ip.Dst, Sport: sport, Dport: dport}, true
}

// isTracked tells whether packets of that form are of connections.
func isTracked(x api.L4) bool {
	switch x.Kind {
	case api.KindUdp, api.KindTcp:
		return true
	case api.KindIcmp:
		return (x.Type == echoAsked || x.Type == echoReply) && x.Code == 0
	}
	return false
}

// Turned is the tuple of what comes back.
func Turned(t api.Tuple) api.Tuple {
	return api.Tuple{Proto: t.Proto, Src: t.Dst, Dst: t.Src, Sport: t.Dport, Dport: t.Sport}
}

// changed is a packet of a connection with Nat: forward it goes where the answers come from; backward it comes
// from where the first packet went.
func changed(p api.Packet, c api.Conn, backward bool) api.Packet {
	if backward {
		p.Ip.Src = c.Orig.Dst
		putPort(&p.L4, &p.L4.Sport, c.Orig.Dport)
		return p
	}
	p.Ip.Dst = c.Reply.Src
	putPort(&p.L4, &p.L4.Dport, c.Reply.Sport)
	return p
}

// putPort puts a port into its place, which an echo has not: its identifier stands for it.
func putPort(x *api.L4, place *int, port int) {
	if x.Kind == api.KindIcmp {
		x.Rest = uint32(port)<<idShift | x.Rest&numberMask
		return
	}
	*place = port
}
