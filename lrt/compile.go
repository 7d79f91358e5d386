package lrt

import (
	"skein/api"
	"skein/flow"
	"skein/lpm"
)

const (
	echoRequest = 8
	timeIsUp    = 11
	unreachable = 3
)

// enter is table 20: a router takes what is for it, and is IPv4 without a tag.
func (c *compiler) enter() {
	put := c.Table(tableEnter)
	for _, p := range c.ports {
		put(50, flow.When(flow.Is(api.InPort, p.key), flow.Is(api.EthDst, p.Mac), flow.Is(api.EthType, api.TypeIp), flow.Is(api.VlanTag, 0)), flow.GoTo(tableOwn))
	}
}

// answer is table 21: of what is for its own addresses a router answers echos, and drops the rest.
func (c *compiler) answer() {
	put := c.Table(tableOwn)
	for _, ip := range c.addresses() {
		for _, p := range c.ports {
			put(100, flow.When(flow.Is(api.InPort, p.key), flow.Is(api.IpDst, ip), flow.Is(api.IcmpType, echoRequest), flow.Is(api.IcmpCode, 0)),
				p.back(api.Act{Kind: api.ActEcho})...)
		}
		put(90, flow.When(flow.Is(api.IpDst, ip)))
	}
	put(flow.Otherwise, nil, flow.GoTo(tableFromNat))
}

// fromNat is table 22: what comes in for an external address is for the internal one.
func (c *compiler) fromNat() {
	put := c.Table(tableFromNat)
	for _, n := range c.nats {
		put(100, flow.When(flow.Is(api.InPort, n.key), flow.Is(api.IpDst, n.Ip)), flow.Set(api.IpDst, n.Ip2), flow.GoTo(tableLife))
	}
	put(flow.Otherwise, nil, flow.GoTo(tableLife))
}

// endLife is table 23: who has no time to live, 0 or 1, is told so.
func (c *compiler) endLife() {
	put := c.Table(tableLife)
	for _, p := range c.ports {
		put(100, flow.When(flow.Is(api.InPort, p.key), flow.Under(api.IpTtl, 0, 0xfe)), p.back(p.tells(timeIsUp))...)
	}
	put(flow.Otherwise, nil, flow.GoTo(tableWay))
}

// tells is the answer of a fault, from a port.
func (p port) tells(fault int) api.Act {
	return api.Act{Kind: api.ActError, Port: fault, Value: p.Mac, From: int(p.Ip)}
}

// findWay is table 24: Reg3 gets the port by which a packet goes out, Reg1 the next hop. The longer a prefix is, the
// earlier; of one length a port's comes first.
func (c *compiler) findWay() {
	put := c.Table(tableWay)
	for _, p := range c.ports {
		put(2*p.Num+2, under(p.Ip, p.Num), api.Act{Kind: api.ActHop}, flow.Move(api.IpDst, api.Reg1), flow.Set(api.Reg3, p.key), flow.GoTo(tableNeighbour))
		put(flow.Otherwise, flow.When(flow.Is(api.InPort, p.key)), p.back(p.tells(unreachable))...)
	}
	for _, r := range c.routes {
		put(2*r.Num+1, under(r.Ip, r.Num), api.Act{Kind: api.ActHop}, flow.Set(api.Reg1, r.Ip2), flow.Set(api.Reg3, r.key), flow.GoTo(tableNeighbour))
	}
}

// under is the terms of packets to a prefix.
func under(ip uint32, plen int) []api.Term {
	if plen == 0 {
		return flow.When(flow.Is(api.EthType, api.TypeIp))
	}
	mask := lpm.Mask(plen)
	return flow.When(flow.Under(api.IpDst, uint64(ip&mask), uint64(mask)))
}

// findNeighbour is table 25: the next hop's Mac, where there is one.
func (c *compiler) findNeighbour() {
	put := c.Table(tableNeighbour)
	for _, p := range c.ports {
		for _, q := range p.neighbours {
			put(50, flow.When(flow.Is(api.Reg3, p.key), flow.Is(api.Reg1, q.Ip)), flow.Set(api.EthDst, q.Mac), flow.Set(api.EthSrc, p.Mac), flow.GoTo(tableToNat))
		}
	}
}

// toNat is table 26: what goes out from an internal address is from the external one.
func (c *compiler) toNat() {
	put := c.Table(tableToNat)
	for _, n := range c.nats {
		put(100, flow.When(flow.Is(api.Reg3, n.key), flow.Is(api.IpSrc, n.Ip2)), flow.Set(api.IpSrc, n.Ip), flow.GoTo(tableLeave))
	}
	put(flow.Otherwise, nil, flow.GoTo(tableLeave))
}

// leave is table 27: a packet that has passed fewer than MaxHops routers goes out into a switch. Reg2 counts them.
func (c *compiler) leave() {
	put := c.Table(tableLeave)
	for _, p := range c.ports {
		if !p.isLinked {
			continue
		}
		for passed := range api.MaxHops {
			put(50, flow.When(flow.Is(api.Reg3, p.key), flow.Is(api.Reg2, passed)), p.back(flow.Set(api.Reg2, passed+1))...)
		}
	}
}
