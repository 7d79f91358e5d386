package network

import "skein/api"

// part is some of a network's rows, each once. Whatever they name is there, too: they are well formed, as all of them
// are. What is asked of a part is told sooner than of all rows, which the layers check each time.
type part struct {
	*Network
	rows []api.Row
	had  map[label]struct{}
}

func partOf(n *Network) *part {
	return &part{Network: n, had: map[label]struct{}{}}
}

// PortRows is a switch, its ports, and the routers' ports that its links lead to.
func (n *Network) PortRows(name string) []api.Row {
	p := partOf(n)
	p.takeSwitch(name)
	return p.rows
}

// SwitchRows is the rows that a switch's flows hang on: its own, and the routers' ports that its links lead to.
func (n *Network) SwitchRows(name string) []api.Row {
	p := partOf(n)
	p.takeSwitch(name)
	p.takeOwned(name, api.RowAcl, api.RowVip)
	return p.rows
}

// RouterRows is the rows that a router's flows hang on: its own, and the switches to which its ports are linked, with
// their ports.
func (n *Network) RouterRows(name string) []api.Row {
	p := partOf(n)
	p.take(api.RowRouter, name)
	for _, r := range n.Owned(api.RowRouterPort, name) {
		p.take(api.RowRouterPort, r.Name)
		if link, ok := n.Link(r.Name); ok {
			p.takeSwitch(link.Owner)
		}
	}
	p.takeOwned(name, api.RowRoute, api.RowNat)
	return p.rows
}

// take takes the row of a kind and a name, if it was not taken already.
func (p *part) take(kind int, name string) {
	l := label{kind, name}
	if _, ok := p.had[l]; ok {
		return
	}
	p.had[l] = struct{}{}
	r, _ := p.Find(kind, name)
	p.rows = append(p.rows, r)
}

// takeOwned takes all rows of an owner, of kinds without names.
func (p *part) takeOwned(owner string, kinds ...int) {
	for _, kind := range kinds {
		p.rows = append(p.rows, p.Owned(kind, owner)...)
	}
}

// takeSwitch takes a switch with its ports, and what these lead to.
func (p *part) takeSwitch(name string) {
	p.take(api.RowSwitch, name)
	for _, r := range p.Owned(api.RowPort, name) {
		p.take(api.RowPort, r.Name)
		if !IsVif(r) {
			far, _ := p.Find(api.RowRouterPort, r.Peer)
			p.take(api.RowRouter, far.Owner)
			p.take(api.RowRouterPort, far.Name)
		}
	}
}
