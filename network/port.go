package network

import "skein/api"

// Port is a switch's port: its row, with the addresses that it is known by, its key, and where it leads to, if it is a
// link.
type Port struct {
	api.Row
	Key int
	Far End
}

// End is the router's port that a link leads to: its row, its key, its router's key.
type End struct {
	api.Row
	Key    int
	Router int
}

// Ports is a switch's ports, in the rows' order.
func (n *Network) Ports(name string) []Port {
	var out []Port
	for _, r := range n.Owned(api.RowPort, name) {
		p := Port{Row: r, Key: n.Key(api.RowPort, r.Name)}
		if !IsVif(r) {
			p.Far = n.end(r.Peer)
			p.Mac, p.Ip = p.Far.Mac, p.Far.Ip
		}
		out = append(out, p)
	}
	return out
}

func (n *Network) end(name string) End {
	r, _ := n.Find(api.RowRouterPort, name)
	return End{Row: r, Key: n.Key(api.RowRouterPort, name), Router: n.Key(api.RowRouter, r.Owner)}
}
