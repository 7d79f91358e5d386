package lsw

import (
	"skein/api"
	"skein/flow"
	"skein/network"
)

// The tables of a switch, from 0 on. Behind tableOut are those of the port at which a frame goes out; the last one
// leads to a host's own.
const (
	tableSource = iota
	tableLook
	tableFrom
	tablePick
	tableAim
	tableCommit
	tableArp
	tableDhcp
	tableSpread
	tableOut
	tableOutLook
	tableTo
	tableOutCommit
)

// tableRouter is a router's first one.
const tableRouter = 20

// multicast is the bit of an address that makes it one of many.
const multicast = 1 << 40

const broadcast uint32 = 0xffffffff

const (
	dhcpClient = 68
	dhcpServer = 67
	arpRequest = 1
)

// What Reg0 says of a frame.
const (
	toCommit = 1 // its connection will be remembered
	isPicked = 2 // one of the Ways of a VIP is its destination now
)

// Whose zone an action is about.
const (
	zoneIn = iota
	zoneOut
)

// compiler is a switch, and its flows so far.
type compiler struct {
	flow.Builder
	ports  []network.Port
	acls   []api.Row
	vips   []api.Row
	macs   map[uint32]uint64 // of the VIFs, by their Ips
	tracks bool
}

func compilerOf(n *network.Network, rows []api.Row, name string) *compiler {
	c := &compiler{
		Builder: flow.Of(n.Key(api.RowSwitch, name)),
		ports:   n.Ports(name),
		acls:    n.Owned(api.RowAcl, name),
		vips:    n.Owned(api.RowVip, name),
		macs:    map[uint32]uint64{},
		tracks:  Stateful(rows, name),
	}
	for _, p := range c.ports {
		if network.IsVif(p.Row) {
			c.macs[p.Ip] = p.Mac
		}
	}
	return c
}

func (c *compiler) compile() {
	c.checkSources()
	c.look(tableLook, zoneIn)
	c.filter(tableFrom, false)
	c.pick()
	c.aim()
	c.commit(tableCommit, zoneIn)
	c.answerArp()
	c.answerDhcp()
	c.spread()
	c.leave()
	c.look(tableOutLook, zoneOut)
	c.filter(tableTo, true)
	c.commit(tableOutCommit, zoneOut)
}
