package lsw

import (
	"skein/api"
	"skein/flow"
	"skein/nbdb"
)

// What follows is done at the port where a frame comes in, and once more where it goes out; each leads to the next
// table.

// look is tables 1 and 10: what is known of a frame's connection.
func (c *compiler) look(table, zone int) {
	put := c.Table(table)
	if c.tracks {
		put(10, flow.When(flow.Is(api.EthType, api.TypeIp)), api.Act{Kind: api.ActCtLook, Port: zone}, flow.GoTo(table+1))
	}
	put(flow.Otherwise, nil, flow.GoTo(table+1))
}

// filter is tables 2 and 11: the ACLs of frames from a port, or to a port.
func (c *compiler) filter(table int, isTo bool) {
	put := c.Table(table)
	if c.tracks {
		put(65535, flow.When(flow.Has(api.CtState, api.CtEst)), flow.GoTo(table+1))
	}
	names, keys := c.names()
	for _, r := range c.acls {
		if r.Flag != isTo {
			continue
		}
		// Well formed is a text with which each key is 1. With other keys it may be too wide, or a key too great for a
		// field that it stands beside: then there are no matches.
		matches, _ := nbdb.Acl(names, keys, r.Text)
		for _, m := range matches {
			put(leastAcl+r.Num, m, verdict(r.Num2, table+1)...)
		}
	}
	put(flow.Otherwise, nil, flow.GoTo(table+1))
}

// leastAcl is the priority of an ACL of Num 0.
const leastAcl = 1000

// names is what texts of ACLs may name: the ports, and their keys.
func (c *compiler) names() (names []string, keys []api.Key) {
	for _, p := range c.ports {
		names = append(names, p.Name)
		keys = append(keys, api.Key{Name: p.Name, Num: p.Key})
	}
	return names, keys
}

// verdict is what an ACL does to a frame that goes on in the next table, if it may.
func verdict(does, next int) []api.Act {
	switch does {
	case api.AclAllow:
		return []api.Act{flow.GoTo(next)}
	case api.AclRelated:
		return []api.Act{flow.Mark(api.Reg0, toCommit), flow.GoTo(next)}
	}
	return nil
}

// commit is tables 5 and 12: a connection is remembered.
func (c *compiler) commit(table, zone int) {
	put := c.Table(table)
	put(10, flow.When(flow.Has(api.Reg0, toCommit)), api.Act{Kind: api.ActCtCommit, Port: zone}, flow.GoTo(table+1))
	put(flow.Otherwise, nil, flow.GoTo(table+1))
}
