package lrt

import (
	"maps"
	"slices"

	"skein/api"
	"skein/flow"
	"skein/network"
)

// The tables of a router.
const (
	tableEnter = 20 + iota
	tableOwn
	tableFromNat
	tableLife
	tableWay
	tableNeighbour
	tableToNat
	tableLeave
)

// tableSwitch is a switch's first one.
const tableSwitch = 0

// compiler is a router, and its flows so far.
type compiler struct {
	flow.Builder
	ports  []port
	routes []leading
	nats   []leading
}

// port is a router's port: its row, its key; and if it is linked, where that leads to.
type port struct {
	api.Row
	key        int
	isLinked   bool
	link       int // the key of the switch's port
	datapath   int // the switch's key
	neighbours []network.Port
}

// leading is a route or a NAT, and the key of its port.
type leading struct {
	api.Row
	key int
}

func compilerOf(n *network.Network, name string) *compiler {
	c := &compiler{Builder: flow.Of(n.Key(api.RowRouter, name))}
	for _, r := range n.Owned(api.RowRouterPort, name) {
		c.ports = append(c.ports, portOf(n, r))
	}
	keyed := func(kind int) []leading {
		var out []leading
		for _, r := range n.Owned(kind, name) {
			out = append(out, leading{Row: r, key: n.Key(api.RowRouterPort, r.Peer)})
		}
		return out
	}
	c.routes, c.nats = keyed(api.RowRoute), keyed(api.RowNat)
	return c
}

func portOf(n *network.Network, r api.Row) port {
	p := port{Row: r, key: n.Key(api.RowRouterPort, r.Name)}
	link, ok := n.Link(r.Name)
	if ok {
		p.isLinked = true
		p.link, p.datapath = n.Key(api.RowPort, link.Name), n.Key(api.RowSwitch, link.Owner)
		p.neighbours = neighbours(n, r.Name)
	}
	return p
}

// back is actions, and then the way into the switch that a port is linked to.
func (p port) back(l ...api.Act) []api.Act {
	if !p.isLinked {
		return l
	}
	return append(l, flow.Enter(p.datapath, p.link, tableSwitch)...)
}

// addresses is the ports' Ips. Two ports of one router may have the same.
func (c *compiler) addresses() []uint32 {
	own := map[uint32]int{}
	for _, p := range c.ports {
		own[p.Ip]++
	}
	return slices.Sorted(maps.Keys(own))
}

func (c *compiler) compile() {
	c.enter()
	c.answer()
	c.fromNat()
	c.endLife()
	c.findWay()
	c.findNeighbour()
	c.toNat()
	c.leave()
}
