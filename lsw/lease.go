package lsw

import (
	"skein/api"
	"skein/network"
)

// What a network without a router leases from.
const (
	lonelyServer = 169<<24 | 254<<16 | 169<<8 | 254
	lonelyMask   = 0xffffff00
	lonelyMac    = 0x0a0000000001
)

const leaseTime = 3600

// leaseOf is the lease of a VIF of a switch with these ports, and from which Mac.
func leaseOf(vif api.Row, ports []network.Port) (api.Lease, uint64) {
	lease := api.Lease{Mac: vif.Mac, Ip: vif.Ip, Server: lonelyServer, Mask: lonelyMask, Time: leaseTime}
	for _, p := range ports {
		if !network.IsVif(p.Row) {
			lease.Server, lease.Router, lease.Mask = p.Ip, p.Ip, prefixMask(p.Far.Num)
			return lease, p.Mac
		}
	}
	return lease, lonelyMac
}

// prefixMask is so many highest bits, of 1 to 32.
func prefixMask(plen int) uint32 {
	return ^uint32(0) << (32 - plen)
}
