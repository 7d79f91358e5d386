package lrt

import (
	"skein/api"
	"skein/lpm"
	"skein/network"
)

// ways is where a router sends packets to: prefixes, of each of which the table has the place in the list.
type ways struct {
	*lpm.Table
	list []way
}

// way is out of which port, and by which next hop: 0, which none is, if a packet's destination is that itself.
type way struct {
	port string
	via  uint32
}

// waysOf is the ways of a router: none of what is no router.
func waysOf(n *network.Network, name string) ways {
	w := ways{Table: lpm.New()}
	for _, p := range n.Owned(api.RowRouterPort, name) {
		w.take(p.Ip&lpm.Mask(p.Num), p.Num, way{port: p.Name})
	}
	for _, r := range n.Owned(api.RowRoute, name) {
		w.take(r.Ip, r.Num, way{port: r.Peer, via: r.Ip2})
	}
	return w
}

// take has a prefix lead a way, if none has it already: ports come ahead of routes.
func (w *ways) take(prefix uint32, plen int, by way) {
	w.Add(prefix, plen, len(w.list))
	w.list = append(w.list, by)
}

// next is the way of an address, by the longest prefix that has it.
func (w ways) next(ip uint32) (port string, via uint32, ok bool) {
	r, ok := w.Find(ip)
	if !ok {
		return "", 0, false
	}
	by := w.list[r.Value]
	if by.via == 0 {
		by.via = ip
	}
	return by.port, by.via, true
}

// neighbours is whom a router's port finds: the other ports of the switch that it is linked to.
func neighbours(n *network.Network, port string) []network.Port {
	link, ok := n.Link(port)
	if !ok {
		return nil
	}
	var out []network.Port
	for _, p := range n.Ports(link.Owner) {
		if p.Name != link.Name {
			out = append(out, p)
		}
	}
	return out
}
