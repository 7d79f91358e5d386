package sem

import (
	"skein/api"
	"skein/lsw"
	"skein/network"
)

// land is a network, as frames find it. It stays as it is.
type land struct {
	*network.Network
	switches map[string]*lswitch
	routers  map[string]*lrouter
}

// lswitch is a logical switch.
type lswitch struct {
	ports      []network.Port // in the rows' order
	from       []rule         // ACLs of frames from a port
	to         []rule         // ACLs of frames to a port
	vips       []api.Row      // in the rows' order
	isStateful bool
	rows       []api.Row // those that leases hang on
}

// lrouter is a logical router.
type lrouter struct {
	api.Row
	ports []api.Row
	nats  []api.Row
	rows  []api.Row // those that ways and next hops hang on
}

// landOf is the land of rows that are well formed, and their keys.
func landOf(rows []api.Row, k api.Keys) *land {
	n := network.Known(rows, k)
	l := &land{Network: n, switches: map[string]*lswitch{}, routers: map[string]*lrouter{}}
	for _, r := range n.Owned(api.RowSwitch, network.Nobody) {
		l.switches[r.Name] = switchOf(n, rows, r.Name)
	}
	for _, r := range n.Owned(api.RowRouter, network.Nobody) {
		l.routers[r.Name] = &lrouter{
			Row:   r,
			ports: n.Owned(api.RowRouterPort, r.Name),
			nats:  n.Owned(api.RowNat, r.Name),
			rows:  n.RouterRows(r.Name),
		}
	}
	return l
}

func switchOf(n *network.Network, rows []api.Row, name string) *lswitch {
	s := &lswitch{
		ports:      n.Ports(name),
		vips:       n.Owned(api.RowVip, name),
		isStateful: lsw.Stateful(rows, name),
		rows:       n.PortRows(name),
	}
	acls := n.Owned(api.RowAcl, name)
	s.from = rulesOf(acls, s.ports, func(r api.Row) bool { return !r.Flag })
	s.to = rulesOf(acls, s.ports, func(r api.Row) bool { return r.Flag })
	return s
}

// first is the first one of a list that is wanted.
func first[T any](l []T, isWanted func(x T) bool) (T, bool) {
	for _, x := range l {
		if isWanted(x) {
			return x, true
		}
	}
	var none T
	return none, false
}

// isBound tells whether there is a VIF of that name, on a host. (Nothing but a VIF is ever bound.)
func (l *land) isBound(name string) bool {
	_, ok := l.Find(api.RowBind, name)
	return ok
}

func (l *land) boundVifs() []network.Port {
	var out []network.Port
	for _, r := range l.Owned(api.RowBind, network.Nobody) {
		_, vif := l.portOf(r.Name)
		out = append(out, vif)
	}
	return out
}

// portOf is the switch's port of that name, which there is, and its switch.
func (l *land) portOf(name string) (*lswitch, network.Port) {
	r, _ := l.Find(api.RowPort, name)
	s := l.switches[r.Owner]
	p, _ := first(s.ports, func(p network.Port) bool { return p.Name == name })
	return s, p
}

// portAt is the port with an Ip, if the switch has one.
func (s *lswitch) portAt(ip uint32) (network.Port, bool) {
	return first(s.ports, func(p network.Port) bool { return p.Ip == ip })
}
