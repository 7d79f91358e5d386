package nbdb

import (
	"skein/api"
	"skein/lpm"
)

// network is rows, as the rules look at them.
type network struct {
	rows  []api.Row
	named map[key]api.Row
}

// rule is one of those that rows must keep, and what is told, if they don't. Each may lean on those ahead of it.
type rule struct {
	isBroken func() bool
	fault    api.Errno
}

// Check tells whether rows are well formed: the first rule that is broken.
func Check(rows []api.Row) api.Errno {
	n := &network{rows: rows, named: map[key]api.Row{}}
	// Of more than may be none is looked up.
	for _, r := range rows[:min(len(rows), api.MaxRows)] {
		n.named[keyOf(r)] = r
	}
	for _, r := range n.rules() {
		if r.isBroken() {
			return r.fault
		}
	}
	return api.OK
}

func (n *network) rules() []rule {
	return []rule{
		{n.isTooGreat, api.ErrFull},
		{n.hasWrongRow, api.ErrRow},
		{n.hasTwins, api.ErrClash},
		{n.hasStray, api.ErrOwner},
		{n.hasSwitchClash, api.ErrClash},
		{n.hasRouterClash, api.ErrClash},
		{n.hasVipClash, api.ErrClash},
		{n.hasWrongAcl, api.ErrAcl},
	}
}

// tally is how many of a list have each key.
func tally[T any, K comparable](l []T, keyOf func(T) K) map[K]int {
	counts := map[K]int{}
	for _, x := range l {
		counts[keyOf(x)]++
	}
	return counts
}

// hasTwice tells whether two of a list have one key.
func hasTwice[T any, K comparable](l []T, keyOf func(T) K) bool {
	return len(tally(l, keyOf)) < len(l)
}

// those is the rows of a kind that are wanted.
func (n *network) those(kind int, isWanted func(r api.Row) bool) []api.Row {
	var out []api.Row
	for _, r := range n.rows {
		if r.Kind == kind && isWanted(r) {
			out = append(out, r)
		}
	}
	return out
}

func (n *network) of(kind int) []api.Row {
	return n.those(kind, func(api.Row) bool { return true })
}

// find is the row of a kind and a name: an empty one, if there is none.
func (n *network) find(kind int, name string) api.Row {
	return n.named[key{kind: kind, name: name}]
}

func (n *network) has(kind int, name string) bool {
	return n.find(kind, name).Kind == kind
}

func (n *network) isTooGreat() bool {
	return len(n.rows) > api.MaxRows
}

func (n *network) hasWrongRow() bool {
	for _, r := range n.rows {
		if !isRight(r) {
			return true
		}
	}
	return false
}

func (n *network) hasTwins() bool {
	return hasTwice(n.rows, keyOf)
}

func (n *network) hasStray() bool {
	for _, r := range n.rows {
		if n.isStray(r) {
			return true
		}
	}
	return false
}

// isStray tells whether a row names one that there is not.
func (n *network) isStray(r api.Row) bool {
	switch r.Kind {
	case api.RowPort:
		return !n.has(api.RowSwitch, r.Owner) || !isVif(r) && !n.has(api.RowRouterPort, r.Peer)
	case api.RowRouterPort:
		return !n.has(api.RowRouter, r.Owner)
	case api.RowRoute, api.RowNat:
		return !n.has(api.RowRouter, r.Owner) || n.find(api.RowRouterPort, r.Peer).Owner != r.Owner
	case api.RowAcl, api.RowVip:
		return !n.has(api.RowSwitch, r.Owner)
	case api.RowBind:
		return !isVif(n.find(api.RowPort, r.Name))
	}
	return false
}

// owned is a number within a switch, a router, or a port.
type owned struct {
	owner  string
	number uint64
}

func ownedMac(r api.Row) owned {
	return owned{r.Owner, r.Mac}
}

func ownedIp(r api.Row) owned {
	return owned{r.Owner, uint64(r.Ip)}
}

// addressed is the ports of all switches, with the addresses that they are known by: a link has those of the
// router's port that it leads to.
func (n *network) addressed() []api.Row {
	ports := n.of(api.RowPort)
	for i, p := range ports {
		if !isVif(p) {
			peer := n.find(api.RowRouterPort, p.Peer)
			ports[i].Mac, ports[i].Ip = peer.Mac, peer.Ip
		}
	}
	return ports
}

func (n *network) hasSwitchClash() bool {
	ports := n.addressed()
	for _, count := range tally(ports, func(r api.Row) string { return r.Owner }) {
		if count > api.MaxPorts {
			return true
		}
	}
	links := n.those(api.RowPort, func(r api.Row) bool { return !isVif(r) })
	if hasTwice(links, func(r api.Row) string { return r.Peer }) {
		return true
	}
	return hasTwice(ports, ownedMac) || hasTwice(ports, ownedIp)
}

// routed is a prefix of a router.
type routed struct {
	router string
	prefix uint32
	plen   int
}

func routedBy(r api.Row) routed {
	return routed{r.Owner, r.Ip & lpm.Mask(r.Num), r.Num}
}

// hasRouterClash does not look for two NATs of one port with one Ip: they are of one key.
func (n *network) hasRouterClash() bool {
	ports, nats := n.of(api.RowRouterPort), n.of(api.RowNat)
	if hasTwice(ports, routedBy) {
		return true
	}
	taken := tally(ports, ownedIp)
	for _, r := range nats {
		if taken[ownedIp(r)] > 0 {
			return true
		}
	}
	return hasTwice(nats, func(r api.Row) owned { return owned{r.Peer, uint64(r.Ip2)} })
}

func (n *network) hasVipClash() bool {
	taken := tally(n.addressed(), ownedIp)
	vifs := tally(n.those(api.RowPort, isVif), ownedIp)
	for _, r := range n.of(api.RowVip) {
		if taken[ownedIp(r)] > 0 {
			return true
		}
		for _, w := range r.Ways {
			if vifs[owned{r.Owner, uint64(w.Ip)}] == 0 {
				return true
			}
		}
	}
	return false
}

func (n *network) hasWrongAcl() bool {
	names := map[string][]api.Name{}
	for _, p := range n.of(api.RowPort) {
		names[p.Owner] = append(names[p.Owner], api.Name{Text: p.Name, Num: 1})
	}
	for _, r := range n.of(api.RowAcl) {
		if _, fault := matchesOf(r.Text, names[r.Owner]); fault != api.OK {
			return true
		}
	}
	return false
}
