package lsw

import (
	"cmp"
	"slices"

	"skein/api"
	"skein/keys"
)

// network is rows that are well formed, and their keys, where these are asked for.
type network struct {
	rows []api.Row
	keys map[named]int
}

// named is what has a key: a row's kind and name.
type named struct {
	kind int
	name string
}

// number gives a network its keys: false, if they are not right, or lack a name.
func (n *network) number(k api.Keys) bool {
	if keys.Check(k) != api.OK {
		return false
	}
	n.keys = map[named]int{}
	note := func(kind int, l []api.Key) {
		for _, x := range l {
			n.keys[named{kind, x.Name}] = x.Num
		}
	}
	note(api.RowSwitch, k.Switches)
	note(api.RowRouter, k.Routers)
	note(api.RowPort, k.Ports)
	note(api.RowRouterPort, k.RouterPorts)
	return !slices.ContainsFunc(n.rows, n.lacksKey)
}

// lacksKey tells whether a row is one of those that have keys, and has none.
func (n *network) lacksKey(r api.Row) bool {
	switch r.Kind {
	case api.RowSwitch, api.RowRouter, api.RowPort, api.RowRouterPort:
		return n.key(r.Kind, r.Name) == 0
	}
	return false
}

// key is the key of a name: 0, if it has none.
func (n *network) key(kind int, name string) int {
	return n.keys[named{kind, name}]
}

// find is the row of a kind and a name.
func (n *network) find(kind int, name string) (api.Row, bool) {
	at := slices.IndexFunc(n.rows, func(r api.Row) bool { return r.Kind == kind && r.Name == name })
	if at < 0 {
		return api.Row{}, false
	}
	return n.rows[at], true
}

// of is the rows of a kind and an owner, in the rows' order.
func (n *network) of(kind int, owner string) []api.Row {
	var out []api.Row
	for _, r := range n.rows {
		if r.Kind == kind && r.Owner == owner {
			out = append(out, r)
		}
	}
	slices.SortFunc(out, inOrder)
	return out
}

// inOrder compares the places of two rows of one switch: of ports, which have names, and of VIPs, which have none.
// (Of ACLs the order plays no part.)
func inOrder(a, b api.Row) int {
	return cmp.Or(
		cmp.Compare(a.Name, b.Name),
		cmp.Compare(a.Num, b.Num),
		cmp.Compare(a.Num2, b.Num2),
		cmp.Compare(a.Ip, b.Ip),
	)
}

// port is a switch's port: its row, with the addresses that it is known by, its key, and where it leads to, if it is a
// link.
type port struct {
	api.Row
	key int
	far end
}

// end is the router's port that a link leads to: its row, its key, its router's key.
type end struct {
	api.Row
	key    int
	router int
}

func isVif(r api.Row) bool {
	return r.Peer == ""
}

// ports is a switch's ports, in the rows' order.
func (n *network) ports(name string) []port {
	var out []port
	for _, r := range n.of(api.RowPort, name) {
		p := port{Row: r, key: n.key(r.Kind, r.Name)}
		if !isVif(r) {
			p.far = n.end(r.Peer)
			p.Mac, p.Ip = p.far.Mac, p.far.Ip
		}
		out = append(out, p)
	}
	return out
}

func (n *network) end(name string) end {
	r, _ := n.find(api.RowRouterPort, name)
	return end{Row: r, key: n.key(r.Kind, r.Name), router: n.key(api.RowRouter, r.Owner)}
}
