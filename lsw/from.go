package lsw

import (
	"slices"

	"skein/api"
	"skein/flow"
	"skein/network"
)

// checkSources is table 0: who may send what.
func (c *compiler) checkSources() {
	put := c.Table(tableSource)
	put(100, flow.When(flow.Has(api.EthSrc, multicast)))
	for _, p := range c.ports {
		switch {
		case !network.IsVif(p.Row):
			put(30, flow.When(flow.Is(api.InPort, p.Key)), flow.GoTo(tableSpread))
		case p.Flag:
			secure(put, p)
		default:
			put(30, flow.When(flow.Is(api.InPort, p.Key)), flow.GoTo(tableLook))
		}
	}
}

// secure is port security: a VIF sends from its own addresses, or asks for one.
func secure(put flow.Putter, p network.Port) {
	own := func(more ...api.Term) []api.Term {
		return append(flow.When(flow.Is(api.InPort, p.Key), flow.Is(api.EthSrc, p.Mac)), more...)
	}
	put(50, own(flow.Is(api.ArpSha, p.Mac), flow.Is(api.ArpSpa, p.Ip)), flow.GoTo(tableLook))
	put(50, own(flow.Is(api.IpSrc, p.Ip)), flow.GoTo(tableLook))
	put(50, own(asksDhcp(flow.Is(api.IpSrc, 0))...), flow.GoTo(tableLook))
	put(40, flow.When(flow.Is(api.InPort, p.Key), flow.Is(api.EthType, api.TypeIp)))
	put(40, flow.When(flow.Is(api.InPort, p.Key), flow.Is(api.EthType, api.TypeArp)))
	put(30, own(), flow.GoTo(tableLook))
}

// asksDhcp is the terms of what a DHCP client sends to whoever hears it, and more.
func asksDhcp(more ...api.Term) []api.Term {
	return append(flow.When(flow.Is(api.IpProto, api.ProtoUdp), flow.Is(api.IpDst, broadcast), flow.Is(api.TpSrc, dhcpClient), flow.Is(api.TpDst, dhcpServer)), more...)
}

// pick is table 3: who asks for a VIP gets one of its Ways.
func (c *compiler) pick() {
	put := c.Table(tablePick)
	for _, v := range c.vips {
		put(100, flow.When(flow.Is(api.IpProto, v.Num), flow.Is(api.IpDst, v.Ip), flow.Is(api.TpDst, v.Num2), flow.Has(api.CtState, api.CtNew)),
			api.Act{Kind: api.ActPick, Ways: slices.Clone(v.Ways)}, flow.Mark(api.Reg0, toCommit|isPicked), flow.GoTo(tableAim))
	}
	put(flow.Otherwise, nil, flow.GoTo(tableAim))
}

// aim is table 4: what goes to a Way's Ip, now or since its connection began, goes to the VIF that has it.
func (c *compiler) aim() {
	put := c.Table(tableAim)
	since := flow.Under(api.CtState, api.CtEst|api.CtNat, api.CtEst|api.CtReply|api.CtNat)
	for _, p := range c.waysVifs() {
		put(100, flow.When(flow.Is(api.IpDst, p.Ip), flow.Has(api.Reg0, isPicked)), flow.Set(api.EthDst, p.Mac), flow.GoTo(tableCommit))
		put(90, flow.When(flow.Is(api.IpDst, p.Ip), since), flow.Set(api.EthDst, p.Mac), flow.GoTo(tableCommit))
	}
	put(flow.Otherwise, nil, flow.GoTo(tableCommit))
}

// waysVifs is the VIFs that Ways lead to. Each Ip of a Way is that of one VIF.
func (c *compiler) waysVifs() []network.Port {
	ways := map[uint32]int{}
	for _, v := range c.vips {
		for _, w := range v.Ways {
			ways[w.Ip]++
		}
	}
	var out []network.Port
	for _, p := range c.ports {
		if network.IsVif(p.Row) && ways[p.Ip] > 0 {
			out = append(out, p)
		}
	}
	return out
}

// answerArp is table 6: the switch answers for its ports and VIPs.
func (c *compiler) answerArp() {
	put := c.Table(tableArp)
	answer := func(ip uint32, mac uint64) {
		put(100, flow.When(flow.Is(api.ArpOp, arpRequest), flow.Is(api.ArpTpa, ip)), api.Act{Kind: api.ActArp, Value: mac}, turnBack(), flow.GoTo(tableOut))
	}
	for _, p := range c.ports {
		put(110, flow.When(flow.Is(api.InPort, p.Key), flow.Is(api.ArpOp, arpRequest), flow.Is(api.ArpTpa, p.Ip)), flow.GoTo(tableDhcp))
		answer(p.Ip, p.Mac)
	}
	answered := map[uint32]struct{}{}
	for _, v := range c.vips {
		if _, ok := answered[v.Ip]; !ok {
			answered[v.Ip] = struct{}{}
			answer(v.Ip, c.macs[v.Ways[0].Ip])
		}
	}
	put(flow.Otherwise, nil, flow.GoTo(tableDhcp))
}

// answerDhcp is table 7: the switch leases addresses.
func (c *compiler) answerDhcp() {
	put := c.Table(tableDhcp)
	for _, p := range c.ports {
		if p.Flag2 {
			lease, from := leaseOf(p.Row, c.ports)
			put(100, asksDhcp(flow.Is(api.InPort, p.Key)), api.Act{Kind: api.ActDhcp, Lease: lease, Value: from}, turnBack(), flow.GoTo(tableOut))
		}
	}
	put(flow.Otherwise, nil, flow.GoTo(tableSpread))
}

// spread is table 8: by which ports a frame goes out.
func (c *compiler) spread() {
	put := c.Table(tableSpread)
	for _, p := range c.ports {
		put(70, flow.When(flow.Is(api.InPort, p.Key), flow.Has(api.EthDst, multicast)), c.toOthers(p)...)
		put(60, flow.When(flow.Is(api.InPort, p.Key), flow.Is(api.EthDst, p.Mac)))
		put(50, flow.When(flow.Is(api.EthDst, p.Mac)), flow.Set(api.OutPort, p.Key), flow.GoTo(tableOut))
	}
}

// turnBack has a frame go out where it came in.
func turnBack() api.Act {
	return flow.Move(api.InPort, api.OutPort)
}

// toOthers has a copy of a frame go out at each port but one.
func (c *compiler) toOthers(one network.Port) []api.Act {
	var out []api.Act
	for _, p := range c.ports {
		if p.Key != one.Key {
			out = append(out, api.Act{Kind: api.ActClone, Acts: []api.Act{flow.Set(api.OutPort, p.Key), flow.GoTo(tableOut)}})
		}
	}
	return out
}

// leave is table 9: by a link a frame comes into a router. (VIFs are hosts' own.)
func (c *compiler) leave() {
	put := c.Table(tableOut)
	for _, p := range c.ports {
		if !network.IsVif(p.Row) {
			put(50, flow.When(flow.Is(api.OutPort, p.Key)), flow.Enter(p.Far.Router, p.Far.Key, tableRouter)...)
		}
	}
}
