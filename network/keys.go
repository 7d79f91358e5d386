package network

import (
	"cmp"
	"slices"

	"skein/api"
	"skein/keys"
)

// Numbered is the network of rows with keys: false, if rows are not well formed, or keys are not right, or lack a name.
func Numbered(rows []api.Row, k api.Keys) (*Network, bool) {
	n, ok := Of(rows)
	if !ok || keys.Check(k) != api.OK {
		return nil, false
	}
	n.keys = k
	if slices.ContainsFunc(rows, n.lacksKey) {
		return nil, false
	}
	return n, true
}

// lacksKey tells whether a row is one of those that have keys, and has none.
func (n *Network) lacksKey(r api.Row) bool {
	switch r.Kind {
	case api.RowSwitch, api.RowRouter, api.RowPort, api.RowRouterPort:
		return n.Key(r.Kind, r.Name) == 0
	}
	return false
}

// Key is the key of a name: 0, if it has none.
func (n *Network) Key(kind int, name string) int {
	l := n.list(kind)
	// The names of right keys rise.
	at, ok := slices.BinarySearchFunc(l, name, func(k api.Key, name string) int { return cmp.Compare(k.Name, name) })
	if !ok {
		return 0
	}
	return l[at].Num
}

// list is the keys of rows of a kind.
func (n *Network) list(kind int) []api.Key {
	switch kind {
	case api.RowSwitch:
		return n.keys.Switches
	case api.RowRouter:
		return n.keys.Routers
	case api.RowPort:
		return n.keys.Ports
	}
	return n.keys.RouterPorts
}
