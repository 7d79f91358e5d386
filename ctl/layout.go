package ctl

import (
	"slices"

	"skein/api"
	"skein/keys"
	"skein/lower"
	"skein/program"
)

// layout is what rows say of hosts: the names' keys; where VIFs are, by their names; and the programs of the hosts that
// are used: the flows that all of them share, and by hosts those that each has of its own.
type layout struct {
	keys   api.Keys
	places map[string]api.Place
	shared []api.Flow
	own    map[int][]api.Flow
}

// layoutOf is what well formed rows say of hosts, where names that had keys keep them; or why no hosts can be so.
func layoutOf(rows []api.Row, had api.Keys) (layout, api.Errno) {
	k, fault := keys.Update(had, rows)
	if fault != api.OK {
		return layout{}, fault
	}
	programs, _ := program.Of(rows, k)
	l := layout{keys: k, places: placesOf(rows, k), shared: programs.Shared(), own: map[int][]api.Flow{}}
	for _, host := range lower.Hosts(rows) {
		l.own[host] = programs.Own(host)
		// Rows may ask for more flows than a program may have.
		if len(l.shared)+len(l.own[host]) > api.MaxRules {
			return layout{}, api.ErrFull
		}
	}
	return l, api.OK
}

// placesOf is the places of rows that are in order, by names: ports come ahead of what binds them.
func placesOf(rows []api.Row, k api.Keys) map[string]api.Place {
	ports := map[string]api.Row{}
	places := map[string]api.Place{}
	for _, r := range rows {
		switch r.Kind {
		case api.RowPort:
			ports[r.Name] = r
		case api.RowBind:
			key, _ := keys.Find(k.Ports, r.Name)
			dp, _ := keys.Find(k.Switches, ports[r.Name].Owner)
			places[r.Name] = api.Place{Name: r.Name, Key: key, Dp: dp, Host: r.Num}
		}
	}
	return places
}

// uses tells whether a host is used.
func (l layout) uses(host int) bool {
	_, ok := l.own[host]
	return ok
}

// program is a host's flows: none, if it is not used.
func (l layout) program(host int) []api.Flow {
	if !l.uses(host) {
		return nil
	}
	return slices.Concat(l.shared, l.own[host])
}
