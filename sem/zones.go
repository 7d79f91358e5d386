package sem

import (
	"skein/api"
	"skein/ct"
)

// zones is the connections of VIFs: each has a zone of its key's number.
type zones struct {
	conns *ct.Table
}

func newZones(room int) (zones, api.Errno) {
	conns, fault := ct.New(room)
	return zones{conns}, fault
}

func (z zones) fork() zones {
	return zones{z.conns.Fork()}
}

func (z zones) empty(zone int) {
	z.conns.Drop(zone)
}

// look is a State with what a zone knows of its packet: nothing, if that is of no connection.
func (z zones) look(zone int, s api.State) api.State {
	looked, fault := z.conns.Look(zone, s)
	if fault != api.OK {
		return s
	}
	return looked
}

// commit has a zone remember a packet's connection, if it may have one. False: the zone can't take it.
func (z zones) commit(zone int, s api.State) bool {
	fault := z.conns.Commit(zone, s)
	return fault == api.OK || fault == api.ErrPrereq
}
