package field

import (
	"strconv"

	"skein/api"
)

// row is what the table has of a field: the row of no field has no name.
type row struct {
	name  string
	bits  int
	of    int // which packets have it
	read  func(s api.State) uint64
	write func(s api.State, v uint64) api.State
}

func (r row) isField() bool {
	return r.name != ""
}

// integer is the kinds of integers as which States keep fields.
type integer interface {
	int | uint32 | uint64
}

// number is the row of a field that has a place of its own in States. What the place has beyond the field's
// bits is read and written with them, so that it stays.
func number[N integer](name string, bits, of int, place func(s *api.State) *N) row {
	read := func(s api.State) uint64 { return uint64(*place(&s)) }
	write := func(s api.State, v uint64) api.State {
		*place(&s) = N(v)
		return s
	}
	return row{name, bits, of, read, write}
}

// rowOf is the row of a field in the table.
func rowOf(f int) row {
	switch f {
	case api.EthDst:
		return number("eth.dst", 48, all, func(s *api.State) *uint64 { return &s.P.Eth.Dst })
	case api.EthSrc:
		return number("eth.src", 48, all, func(s *api.State) *uint64 { return &s.P.Eth.Src })
	case api.EthType:
		return number("eth.type", 16, all, func(s *api.State) *int { return &s.P.Eth.Type })
	case api.VlanTag:
		return row{"vlan.tag", 17, all, readTag, writeTag}
	case api.ArpOp:
		return number("arp.op", 16, arp, func(s *api.State) *int { return &s.P.Arp.Op })
	case api.ArpSha:
		return number("arp.sha", 48, arp, func(s *api.State) *uint64 { return &s.P.Arp.Sha })
	case api.ArpSpa:
		return number("arp.spa", 32, arp, func(s *api.State) *uint32 { return &s.P.Arp.Spa })
	case api.ArpTha:
		return number("arp.tha", 48, arp, func(s *api.State) *uint64 { return &s.P.Arp.Tha })
	case api.ArpTpa:
		return number("arp.tpa", 32, arp, func(s *api.State) *uint32 { return &s.P.Arp.Tpa })
	case api.IpSrc:
		return number("ip4.src", 32, ip4, func(s *api.State) *uint32 { return &s.P.Ip.Src })
	case api.IpDst:
		return number("ip4.dst", 32, ip4, func(s *api.State) *uint32 { return &s.P.Ip.Dst })
	case api.IpProto:
		return number("ip.proto", 8, ip4, func(s *api.State) *int { return &s.P.Ip.Proto })
	case api.IpTtl:
		return number("ip.ttl", 8, ip4, func(s *api.State) *int { return &s.P.Ip.Ttl })
	case api.IpTos:
		return number("ip.tos", 8, ip4, func(s *api.State) *int { return &s.P.Ip.Tos })
	case api.IpFrag:
		return number("ip.frag", 16, ip4, func(s *api.State) *int { return &s.P.Ip.Frag })
	case api.IcmpType:
		return number("icmp.type", 8, icmp, func(s *api.State) *int { return &s.P.L4.Type })
	case api.IcmpCode:
		return number("icmp.code", 8, icmp, func(s *api.State) *int { return &s.P.L4.Code })
	case api.TpSrc:
		return number("tp.src", 16, ported, func(s *api.State) *int { return &s.P.L4.Sport })
	case api.TpDst:
		return number("tp.dst", 16, ported, func(s *api.State) *int { return &s.P.L4.Dport })
	case api.TcpFlags:
		return number("tcp.flags", 12, tcp, func(s *api.State) *int { return &s.P.L4.Flags })
	case api.CtState:
		return number("ct.state", 8, all, func(s *api.State) *int { return &s.Ct })
	case api.Datapath:
		return number("datapath", 24, all, func(s *api.State) *int { return &s.Dp })
	case api.InPort:
		return number("inport", 16, all, func(s *api.State) *int { return &s.In })
	case api.OutPort:
		return number("outport", 16, all, func(s *api.State) *int { return &s.Out })
	case api.Reg0, api.Reg1, api.Reg2, api.Reg3:
		n := f - api.Reg0
		return number("reg"+strconv.Itoa(n), 32, all, func(s *api.State) *uint32 { return &s.Regs[n] })
	}
	return row{}
}

// tagged is the bit by which a tag of 0 is told from none.
const tagged = 1 << 16

func readTag(s api.State) uint64 {
	if !s.P.Eth.Tagged {
		return 0
	}
	return uint64(s.P.Eth.Tag) + tagged
}

func writeTag(s api.State, v uint64) api.State {
	s.P.Eth.Tagged, s.P.Eth.Tag = false, 0
	if v&tagged != 0 {
		s.P.Eth.Tagged, s.P.Eth.Tag = true, int(v-tagged)
	}
	return s
}

// Which packets have a field.
const (
	all = iota
	arp
	ip4
	icmp
	ported // those whose ends have ports: UDP and TCP
	tcp
)

// isOf tells whether a packet is one of those.
func isOf(p api.Packet, which int) bool {
	switch which {
	case arp:
		return p.IsArp
	case ip4:
		return p.IsIp
	case icmp:
		return p.IsIp && p.L4.Kind == api.KindIcmp
	case ported:
		return p.IsIp && (p.L4.Kind == api.KindUdp || p.L4.Kind == api.KindTcp)
	case tcp:
		return p.IsIp && p.L4.Kind == api.KindTcp
	}
	return true
}

// needsOf is what is so of each packet of those: where two protocols will do, neither is asked for.
func needsOf(which int) []api.Term {
	switch which {
	case arp:
		return []api.Term{exactly(api.EthType, api.TypeArp)}
	case ip4, ported:
		return []api.Term{exactly(api.EthType, api.TypeIp)}
	case icmp:
		return []api.Term{exactly(api.EthType, api.TypeIp), exactly(api.IpProto, api.ProtoIcmp)}
	case tcp:
		return []api.Term{exactly(api.EthType, api.TypeIp), exactly(api.IpProto, api.ProtoTcp)}
	}
	return nil
}

// exactly is the term of a field all of whose bits are v's.
func exactly(f int, v uint64) api.Term {
	return api.Term{Field: f, Value: v, Mask: ones(Bits(f))}
}
