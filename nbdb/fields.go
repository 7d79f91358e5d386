package nbdb

import (
	"skein/api"
	"skein/eth"
	"skein/lpm"
)

// set is some of the fields of rows.
type set int

func (s set) has(field set) bool {
	return s&field != 0
}

// Each field as a set of its own.
const (
	inName set = 1 << iota
	inOwner
	inPeer
	inText
	inMac
	inIp
	inIp2
	inNum
	inNum2
	inFlag
	inFlag2
	inWays
)

const (
	mostPort = 65535
	mostPlen = 32
)

// usedBy is the fields that a row's kind uses: none, if there is no such kind.
func usedBy(r api.Row) set {
	switch r.Kind {
	case api.RowSwitch, api.RowRouter:
		return inName
	case api.RowPort:
		if isVif(r) {
			return inName | inOwner | inMac | inIp | inFlag | inFlag2
		}
		return inName | inOwner | inPeer
	case api.RowRouterPort:
		return inName | inOwner | inMac | inIp | inNum
	case api.RowRoute:
		return inOwner | inIp | inNum | inIp2 | inPeer
	case api.RowAcl:
		return inOwner | inFlag | inNum | inText | inNum2
	case api.RowNat:
		return inOwner | inPeer | inIp | inIp2
	case api.RowVip:
		return inOwner | inNum | inIp | inNum2 | inWays
	case api.RowBind:
		return inName | inNum
	}
	return 0
}

func isVif(r api.Row) bool {
	return r.Kind == api.RowPort && r.Peer == ""
}

// filled is the fields of a row that are not their zero values.
func filled(r api.Row) set {
	var fields set
	mark := func(field set, isThere bool) {
		if isThere {
			fields |= field
		}
	}
	mark(inName, r.Name != "")
	mark(inOwner, r.Owner != "")
	mark(inPeer, r.Peer != "")
	mark(inText, r.Text != "")
	mark(inMac, r.Mac != 0)
	mark(inIp, r.Ip != 0)
	mark(inIp2, r.Ip2 != 0)
	mark(inNum, r.Num != 0)
	mark(inNum2, r.Num2 != 0)
	mark(inFlag, r.Flag)
	mark(inFlag2, r.Flag2)
	mark(inWays, len(r.Ways) != 0)
	return fields
}

// isRight tells whether a row's kind and fields may be, by themselves.
func isRight(r api.Row) bool {
	used := usedBy(r)
	return used != 0 && filled(r)&^used == 0 && areNames(r, used) && areAddresses(r, used) && areNumbers(r)
}

func areNames(r api.Row, used set) bool {
	switch {
	case used.has(inName) && !isName(r.Name):
		return false
	case used.has(inOwner) && !isName(r.Owner):
		return false
	}
	return !used.has(inPeer) || isName(r.Peer)
}

func isName(s string) bool {
	if !isBetween(len(s), 1, api.MaxText) {
		return false
	}
	for i := range len(s) {
		if !isInName(s[i]) {
			return false
		}
	}
	return true
}

func isInName(c byte) bool {
	switch {
	case 'a' <= c && c <= 'z', 'A' <= c && c <= 'Z', '0' <= c && c <= '9':
		return true
	}
	return c == '_' || c == '-'
}

func isBetween(n, least, most int) bool {
	return least <= n && n <= most
}

func areAddresses(r api.Row, used set) bool {
	switch {
	case used.has(inMac) && !isMac(r.Mac):
		return false
	case used.has(inIp2) && r.Ip2 == 0:
		return false
	case r.Kind == api.RowRoute:
		return r.Ip&^lpm.Mask(r.Num) == 0
	}
	return !used.has(inIp) || r.Ip != 0
}

func isMac(mac uint64) bool {
	return 1 <= mac && mac <= api.MaxMac && !eth.Multicast(mac)
}

func areNumbers(r api.Row) bool {
	switch r.Kind {
	case api.RowRouterPort:
		return isBetween(r.Num, 1, mostPlen)
	case api.RowRoute:
		return isBetween(r.Num, 0, mostPlen)
	case api.RowAcl:
		return isBetween(r.Num, 0, api.MaxAclNo) && isBetween(r.Num2, api.AclAllow, api.AclRelated)
	case api.RowVip:
		return (r.Num == api.ProtoTcp || r.Num == api.ProtoUdp) && isBetween(r.Num2, 0, mostPort) && areWays(r.Ways)
	case api.RowBind:
		return isBetween(r.Num, 0, api.MaxHosts-1)
	}
	return true
}

func areWays(l []api.Way) bool {
	if !isBetween(len(l), 1, api.MaxBackend) {
		return false
	}
	for _, w := range l {
		if !isBetween(w.Port, 0, mostPort) {
			return false
		}
	}
	return !hasTwice(l, func(w api.Way) api.Way { return w })
}
