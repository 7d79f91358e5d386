package dhcp

import (
	"skein/api"
	"skein/octets"
)

const (
	ipSize = 4
	// optAddress is the address that a request asks for.
	optAddress = 50
)

// Answer is what a network that has a lease for a port answers to a message from there.
func Answer(m api.Dhcp, l api.Lease) (api.Dhcp, bool) {
	kind := answerKind(m)
	if kind == 0 || m.Op != opAsked || m.Chaddr != l.Mac {
		return api.Dhcp{}, false
	}
	// A discover asks for nothing yet; a request may be for what another server has offered.
	if kind == api.DhcpAck && (asksOther(m, optAddress, l.Ip) || asksOther(m, api.OptServer, l.Server)) {
		return api.Dhcp{}, false
	}
	answer := api.Dhcp{Op: opAnswered, Xid: m.Xid, Flags: m.Flags, Yiaddr: l.Ip, Siaddr: l.Server, Giaddr: m.Giaddr, Chaddr: m.Chaddr}
	answer.Options = leaseOptions(kind, l)
	return answer, true
}

// answerKind is the type of the answer to a message: 0, if it asks for none.
func answerKind(m api.Dhcp) int {
	kind, _ := Find(m, api.OptType)
	if len(kind) != 1 {
		return 0
	}
	switch kind[0] {
	case api.DhcpDiscover:
		return api.DhcpOffer
	case api.DhcpRequest:
		return api.DhcpAck
	}
	return 0
}

// asksOther tells whether the option of a code says another address. One of another length says none.
func asksOther(m api.Dhcp, code int, ip uint32) bool {
	said, _ := Find(m, code)
	return len(said) == ipSize && said != number(ip)
}

// leaseOptions is the options of an answer of that type.
func leaseOptions(kind int, l api.Lease) []api.Option {
	options := []api.Option{
		{Code: api.OptType, Data: string([]byte{byte(kind)})},
		{Code: api.OptServer, Data: number(l.Server)},
		{Code: api.OptLease, Data: number(l.Time)},
		{Code: api.OptMask, Data: number(l.Mask)},
	}
	if l.Router != 0 {
		options = append(options, api.Option{Code: api.OptRouter, Data: number(l.Router)})
	}
	return options
}

// number is the bytes of an address or a time.
func number(v uint32) string {
	return string(octets.Append(nil, uint64(v), ipSize))
}
