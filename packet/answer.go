package packet

import (
	"skein/api"
	"skein/eth"
	"skein/ip"
)

const (
	answerTtl = 64
	byteMask  = 0xff
	// quotedData is how many bytes behind a head an ICMP message quotes: enough for ports.
	quotedData = 8
	// firstGroup is 224.0.0.0: from there on addresses are no one host's.
	firstGroup = 0xe0000000
)

// Error is the ICMP message of a fault, of that type and code, that a router at mac and ip sends about p.
func Error(p api.Packet, mac uint64, ip uint32, kind, code int) (api.Packet, bool) {
	if !mayTellFaults(p) {
		return api.Packet{}, false
	}
	quoted, ok := quote(p)
	if !ok {
		return api.Packet{}, false
	}
	answer := api.Packet{Eth: p.Eth, IsIp: true}
	answer.Eth.Dst, answer.Eth.Src = p.Eth.Src, mac&api.MaxMac
	answer.Ip = api.Ip{Ttl: answerTtl, Proto: api.ProtoIcmp, Src: ip, Dst: p.Ip.Src}
	answer.L4 = api.L4{Kind: api.KindIcmp, Type: kind & byteMask, Code: code & byteMask, Data: quoted}
	return answer, true
}

// mayTellFaults tells whether a fault of p may be told to its sender: once a packet, to one host, and
// never of a message that tells of a fault itself.
func mayTellFaults(p api.Packet) bool {
	if !p.IsIp || !ip.First(p.Ip) {
		return false
	}
	if p.L4.Kind == api.KindIcmp && !isEchoType(p.L4.Type) {
		return false
	}
	return p.Ip.Src != 0 && p.Ip.Src < firstGroup && !eth.Multicast(p.Eth.Src)
}

// quote is the head of p's IPv4 packet and the first bytes of its data, as Print has them; what is
// behind the total length is no part of that packet.
func quote(p api.Packet) (string, bool) {
	b, fault := Print(p)
	if fault != api.OK {
		return "", false
	}
	_, at, _ := eth.Head(b)
	_, size, total, _ := ip.Decode(b[at:])
	return string(b[at : at+min(size+quotedData, total)]), true
}

// Echo is the reply to an echo.
func Echo(p api.Packet) (api.Packet, bool) {
	if !p.IsIp || !ip.Whole(p.Ip) || !isEchoAsked(p.L4) {
		return api.Packet{}, false
	}
	p.Eth.Dst, p.Eth.Src = p.Eth.Src, p.Eth.Dst
	p.Ip.Dst, p.Ip.Src = p.Ip.Src, p.Ip.Dst
	p.Ip.Ttl = answerTtl
	p.L4.Type = echoReply
	return p, true
}

func isEchoAsked(x api.L4) bool {
	return x.Kind == api.KindIcmp && x.Type == echoAsked && x.Code == 0
}
