package network

import (
	"slices"

	"skein/api"
	"skein/nbdb"
)

// Database is a database of rows that are known to be well formed.
func Database(rows []api.Row) *nbdb.DB {
	var all []api.Change
	for _, r := range rows {
		all = append(all, api.Change{Row: r})
	}
	d := nbdb.New()
	// Nothing of them is refused.
	d.Apply(all)
	return d
}

// CopyOfKeys is keys in memory of their own.
func CopyOfKeys(k api.Keys) api.Keys {
	return api.Keys{
		Switches:    slices.Clone(k.Switches),
		Routers:     slices.Clone(k.Routers),
		Ports:       slices.Clone(k.Ports),
		RouterPorts: slices.Clone(k.RouterPorts),
	}
}
