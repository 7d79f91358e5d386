package ctl

import (
	"maps"
	"slices"

	"skein/api"
	"skein/fabric"
	"skein/lower"
)

// hosts is a fabric that is kept as layouts say.
type hosts struct {
	*fabric.Fabric
}

// become has hosts that are as one layout says be as another one does, and tells what that changes in programs.
func (h hosts) become(old, next layout) api.Delta {
	h.move(old.places, next.places)
	h.Places(slices.Collect(maps.Values(next.places)))
	return h.install(old, next)
}

// move has the connections of VIFs go with them; those of VIFs that are bound no more are gone.
func (h hosts) move(old, next map[string]api.Place) {
	for name, from := range old {
		if to, ok := next[name]; ok {
			h.Carry(from.Key, from.Host, to.Host)
		} else {
			h.Empty(from.Host, from.Key)
		}
	}
}

// install has hosts have the programs of another layout, and tells what that changes.
func (h hosts) install(old, next layout) api.Delta {
	var all api.Delta
	for host, d := range deltas(old, next) {
		if d.Added+d.Removed == 0 {
			continue
		}
		h.Install(host, next.program(host))
		all.Added += d.Added
		all.Removed += d.Removed
		all.Hosts++
	}
	return all
}

// deltas is what two layouts have unlike, host by host.
func deltas(old, next layout) map[int]api.Delta {
	out := map[int]api.Delta{}
	shared := deltaOf(old.shared, next.shared)
	for host := range api.MaxHosts {
		// No flow that hosts share is like one that a host has of its own: each kind is held against its like.
		d := deltaOf(old.own[host], next.own[host])
		switch {
		case old.uses(host) && next.uses(host):
			d.Added += shared.Added
			d.Removed += shared.Removed
		case old.uses(host):
			d.Removed += len(old.shared)
		case next.uses(host):
			d.Added += len(next.shared)
		}
		out[host] = d
	}
	return out
}

func deltaOf(old, next []api.Flow) api.Delta {
	added, removed := lower.Diff(old, next)
	return api.Delta{Added: len(added), Removed: len(removed)}
}
