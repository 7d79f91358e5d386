package lsw

import (
	"slices"

	"skein/api"
)

// checkSources is table 0: who may send what.
func (c *compiler) checkSources() {
	put := c.table(tableSource)
	put(100, when(has(api.EthSrc, multicast)))
	for _, p := range c.ports {
		switch {
		case !isVif(p.Row):
			put(30, when(is(api.InPort, p.key)), goTo(tableSpread))
		case p.Flag:
			secure(put, p)
		default:
			put(30, when(is(api.InPort, p.key)), goTo(tableLook))
		}
	}
}

// secure is port security: a VIF sends from its own addresses, or asks for one.
func secure(put putter, p port) {
	own := func(more ...api.Term) []api.Term {
		return append(when(is(api.InPort, p.key), is(api.EthSrc, p.Mac)), more...)
	}
	put(50, own(is(api.ArpSha, p.Mac), is(api.ArpSpa, p.Ip)), goTo(tableLook))
	put(50, own(is(api.IpSrc, p.Ip)), goTo(tableLook))
	put(50, own(asksDhcp(is(api.IpSrc, 0))...), goTo(tableLook))
	put(40, when(is(api.InPort, p.key), is(api.EthType, api.TypeIp)))
	put(40, when(is(api.InPort, p.key), is(api.EthType, api.TypeArp)))
	put(30, own(), goTo(tableLook))
}

// asksDhcp is the terms of what a DHCP client sends to whoever hears it, and more.
func asksDhcp(more ...api.Term) []api.Term {
	return append(when(is(api.IpProto, api.ProtoUdp), is(api.IpDst, broadcast), is(api.TpSrc, dhcpClient), is(api.TpDst, dhcpServer)), more...)
}

// pick is table 3: who asks for a VIP gets one of its Ways.
func (c *compiler) pick() {
	put := c.table(tablePick)
	for _, v := range c.vips {
		put(100, when(is(api.IpProto, v.Num), is(api.IpDst, v.Ip), is(api.TpDst, v.Num2), has(api.CtState, api.CtNew)),
			api.Act{Kind: api.ActPick, Ways: slices.Clone(v.Ways)}, mark(api.Reg0, toCommit|isPicked), goTo(tableAim))
	}
	put(otherwise, nil, goTo(tableAim))
}

// aim is table 4: what goes to a Way's Ip, now or since its connection began, goes to the VIF that has it.
func (c *compiler) aim() {
	put := c.table(tableAim)
	since := under(api.CtState, api.CtEst|api.CtNat, api.CtEst|api.CtReply|api.CtNat)
	for _, p := range c.waysVifs() {
		put(100, when(is(api.IpDst, p.Ip), has(api.Reg0, isPicked)), set(api.EthDst, p.Mac), goTo(tableCommit))
		put(90, when(is(api.IpDst, p.Ip), since), set(api.EthDst, p.Mac), goTo(tableCommit))
	}
	put(otherwise, nil, goTo(tableCommit))
}

// waysVifs is the VIFs that Ways lead to. Each Ip of a Way is that of one VIF.
func (c *compiler) waysVifs() []port {
	ways := map[uint32]int{}
	for _, v := range c.vips {
		for _, w := range v.Ways {
			ways[w.Ip]++
		}
	}
	var out []port
	for _, p := range c.ports {
		if isVif(p.Row) && ways[p.Ip] > 0 {
			out = append(out, p)
		}
	}
	return out
}

// answerArp is table 6: the switch answers for its ports and VIPs.
func (c *compiler) answerArp() {
	put := c.table(tableArp)
	answer := func(ip uint32, mac uint64) {
		put(100, when(is(api.ArpOp, arpRequest), is(api.ArpTpa, ip)), api.Act{Kind: api.ActArp, Value: mac}, turnBack(), goTo(tableOut))
	}
	for _, p := range c.ports {
		put(110, when(is(api.InPort, p.key), is(api.ArpOp, arpRequest), is(api.ArpTpa, p.Ip)), goTo(tableDhcp))
		answer(p.Ip, p.Mac)
	}
	answered := map[uint32]struct{}{}
	for _, v := range c.vips {
		if _, ok := answered[v.Ip]; !ok {
			answered[v.Ip] = struct{}{}
			answer(v.Ip, c.macs[v.Ways[0].Ip])
		}
	}
	put(otherwise, nil, goTo(tableDhcp))
}

// answerDhcp is table 7: the switch leases addresses.
func (c *compiler) answerDhcp() {
	put := c.table(tableDhcp)
	for _, p := range c.ports {
		if p.Flag2 {
			lease, from := leaseOf(p.Row, c.ports)
			put(100, asksDhcp(is(api.InPort, p.key)), api.Act{Kind: api.ActDhcp, Lease: lease, Value: from}, turnBack(), goTo(tableOut))
		}
	}
	put(otherwise, nil, goTo(tableSpread))
}

// spread is table 8: by which ports a frame goes out.
func (c *compiler) spread() {
	put := c.table(tableSpread)
	for _, p := range c.ports {
		put(70, when(is(api.InPort, p.key), has(api.EthDst, multicast)), c.toOthers(p)...)
		put(60, when(is(api.InPort, p.key), is(api.EthDst, p.Mac)))
		put(50, when(is(api.EthDst, p.Mac)), set(api.OutPort, p.key), goTo(tableOut))
	}
}

// toOthers has a copy of a frame go out at each port but one.
func (c *compiler) toOthers(one port) []api.Act {
	var out []api.Act
	for _, p := range c.ports {
		if p.key != one.key {
			out = append(out, clone(set(api.OutPort, p.key), goTo(tableOut)))
		}
	}
	return out
}

// leave is table 9: by a link a frame comes into a router, which knows nothing of it yet. (VIFs are hosts' own.)
func (c *compiler) leave() {
	put := c.table(tableOut)
	for _, p := range c.ports {
		if !isVif(p.Row) {
			put(50, when(is(api.OutPort, p.key)), set(api.Datapath, p.far.router), set(api.InPort, p.far.key), set(api.OutPort, 0),
				set(api.CtState, 0), set(api.Reg0, 0), set(api.Reg1, 0), set(api.Reg3, 0), goTo(tableRouter))
		}
	}
}
