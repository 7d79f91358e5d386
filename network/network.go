// Package network is rows that are well formed, by what they are looked up by, with their keys. It is no layer, but what
// those share that compile networks.
package network

import (
	"cmp"
	"slices"

	"skein/api"
	"skein/nbdb"
)

// Network is rows that are well formed, and their keys, where these are asked for.
type Network struct {
	named map[label]api.Row
	owned map[label][]api.Row
	links map[string]api.Row // the switches' ports that have Peers, by these
	keys  api.Keys
}

// label is a kind of rows, and their name, or their owner's.
type label struct {
	kind int
	name string
}

// Of is the network of rows: false, if these are not well formed.
func Of(rows []api.Row) (*Network, bool) {
	if nbdb.Check(rows) != api.OK {
		return nil, false
	}
	return Known(rows, api.Keys{}), true
}

// Known is the network of rows that are known to be well formed, and of keys that are known to be right and theirs, where
// these are asked for: nothing is checked.
func Known(rows []api.Row, k api.Keys) *Network {
	n := &Network{named: map[label]api.Row{}, owned: map[label][]api.Row{}, links: map[string]api.Row{}, keys: k}
	for _, r := range slices.SortedFunc(slices.Values(rows), inOrder) {
		n.named[label{r.Kind, r.Name}] = r
		n.owned[label{r.Kind, r.Owner}] = append(n.owned[label{r.Kind, r.Owner}], r)
		if r.Kind == api.RowPort && !IsVif(r) {
			n.links[r.Peer] = r
		}
	}
	return n
}

// inOrder compares the places of two rows of one kind and owner, where these play a part: of ports, which have names,
// and of VIPs, which have none.
func inOrder(a, b api.Row) int {
	return cmp.Or(
		cmp.Compare(a.Name, b.Name),
		cmp.Compare(a.Num, b.Num),
		cmp.Compare(a.Num2, b.Num2),
		cmp.Compare(a.Ip, b.Ip),
	)
}

// Find is the row of a name, of a kind that has names.
func (n *Network) Find(kind int, name string) (api.Row, bool) {
	r, ok := n.named[label{kind, name}]
	return r, ok
}

// Nobody is the owner of rows of kinds without owners.
const Nobody = ""

// Owned is the rows of a kind and an owner, in the rows' order.
func (n *Network) Owned(kind int, owner string) []api.Row {
	return n.owned[label{kind, owner}]
}

// Link is the switch's port that leads to a router's port, if one does.
func (n *Network) Link(routerPort string) (api.Row, bool) {
	r, ok := n.links[routerPort]
	return r, ok
}

// IsVif tells whether a switch's port is a VIF, and not a link.
func IsVif(r api.Row) bool {
	return r.Peer == ""
}
