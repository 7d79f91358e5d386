package sem_test

import (
	"math/rand"
	"slices"
	"testing"

	"skein/api"
	"skein/eth"
	"skein/nbdb"
	"skein/packet"
)

// pick is one of a list.
func pick[T any](r *rand.Rand, l ...T) T {
	return l[r.Intn(len(l))]
}

// The names and addresses that random networks have: so few that they meet.
var (
	switches    = []string{"s", "t", "u"}
	routers     = []string{"q", "r", "v"}
	vifs        = []string{"a", "b", "c", "d", "e", "f", "g", "h"}
	links       = []string{"k", "l", "m", "n", "o", "p"}
	routerPorts = []string{"q1", "q2", "r1", "r2", "r3", "v1", "v2"}
)

func anyIp(r *rand.Rand) uint32 {
	return addr(10, 0, uint32(r.Intn(3)), pick[uint32](r, 1, 2, 3, 4, 5, 250, 251, 252, 253))
}

// anyFar is an address that is no port's, but may be a VIP's, or one of a NAT or a route.
func anyFar(r *rand.Rand) uint32 {
	return pick(r, addr(10, 0, 0, 99), addr(10, 0, 1, 99), addr(1, 1, 1, 1), addr(1, 1, 1, 2), addr(99, 0, 0, 1))
}

var aclTexts = []string{
	"1", "udp", "tcp", "icmp", "arp", "ip4", "!ip4", "tp.dst == {53, 80}", "tp.src >= 1000 && udp", "inport == a", "outport == b", "inport != \"a\" && ip4", "ip4.src == 10.0.0.0/24",
	"ip4.dst == 10.0.1.0/24 && !icmp", "outport == 0", "ip.ttl < 3", "eth.dst == ff:ff:ff:ff:ff:ff", "inport == k || inport == l", "vlan.tag != 0", "ip.proto == 17 && tp.dst != 53", "icmp.type == 8",
}

// anyRow is a row that may or may not be well formed among others.
func anyRow(r *rand.Rand) api.Row {
	switch r.Intn(12) {
	case 0:
		return sw(pick(r, switches...))
	case 1:
		return router(pick(r, routers...))
	case 2, 3:
		name := pick(r, vifs...)
		return flagged(vif(name, pick(r, switches...), 0x0a+uint64(slices.Index(vifs, name)), anyIp(r)), r.Intn(4) == 0, r.Intn(4) == 0)
	case 4:
		name := pick(r, routerPorts...)
		return routerPort(name, name[:1], 0x50+uint64(slices.Index(routerPorts, name)), anyIp(r), pick(r, 24, 24, 24, 16, 25, 30))
	case 5:
		return link(pick(r, links...), pick(r, switches...), pick(r, routerPorts...))
	case 6:
		port := pick(r, routerPorts...)
		plen := pick(r, 0, 8, 24, 24, 32)
		return route(port[:1], (anyIp(r)|1)&^(1<<(32-plen)-1), plen, anyIp(r), port)
	case 7:
		port := pick(r, routerPorts...)
		return nat(port[:1], port, anyFar(r), anyIp(r))
	case 8:
		ways := []api.Way{{Ip: anyIp(r), Port: pick(r, 53, 5353)}, {Ip: anyIp(r), Port: pick(r, 53, 80)}}
		return vip(pick(r, switches...), pick(r, api.ProtoUdp, api.ProtoTcp), anyFar(r), pick(r, 53, 80), ways[:1+r.Intn(2)]...)
	case 9, 10:
		return acl(pick(r, switches...), r.Intn(2) == 0, r.Intn(6), pick(r, aclTexts...), 1+r.Intn(3))
	}
	return bind(pick(r, vifs...), r.Intn(4))
}

// anyNet is a network of rows that came one by one; those that were refused are none of it. Switches, routers, VIFs and
// links come ahead of what hangs on them.
func anyNet(t *testing.T, r *rand.Rand) *pair {
	n := newPair(t, 3)
	take := func(row api.Row) { n.Apply(adds(row)) }
	for i, name := range switches {
		take(sw(name))
		take(router(routers[i]))
	}
	for i, name := range vifs {
		take(flagged(vif(name, switches[i%3], 0x0a+uint64(i), addr(10, 0, uint32(i%3), uint32(1+i/3))), r.Intn(4) == 0, r.Intn(4) == 0))
		take(bind(name, r.Intn(4)))
	}
	for i, name := range routerPorts {
		in := r.Intn(3)
		take(routerPort(name, name[:1], 0x50+uint64(i), addr(10, 0, uint32(in), 250+uint32(i%4)), 24))
		if i < len(links) {
			take(link(links[i], switches[in], name))
		}
	}
	for range 30 {
		take(anyRow(r))
	}
	if r.Intn(2) == 0 {
		for _, row := range n.Rows() {
			if row.Kind == api.RowAcl && row.Num2 == api.AclDrop {
				n.Apply(dels(row))
			}
		}
	}
	n.install(t)
	return n
}

// macs is the Macs of a network's ports, and some more.
func (n *pair) macs() []uint64 {
	l := []uint64{everybody, 1 << 40, 0x77}
	for _, r := range n.Rows() {
		if r.Mac != 0 {
			l = append(l, r.Mac)
		}
	}
	return l
}

// anyPacket is a packet that a VIF sends: as it should, for the most part.
func anyPacket(t *testing.T, r *rand.Rand, n *pair, from api.Row) api.Packet {
	src, ip := from.Mac, from.Ip
	if r.Intn(8) == 0 {
		src = pick(r, n.macs()...)
	}
	if r.Intn(8) == 0 {
		ip = pick(r, 0, anyIp(r), 1<<32-1)
	}
	dst, to := pick(r, n.macs()...), pick(r, anyIp(r), anyIp(r), anyIp(r), anyFar(r))
	sport, dport := pick(r, 1000, 1001, 53), pick(r, 53, 80, 1000)
	var p api.Packet
	switch r.Intn(10) {
	case 0:
		p = plain(src, dst)
	case 1:
		p = asks(src, ip, to)
		p.Arp.Op = pick(r, 1, 1, 1, 2)
	case 2:
		p = icmp(src, dst, ip, to, pick(r, 8, 8, 0, 3), pick(r, 0, 0, 1))
	case 3:
		p = fragment(src, dst, ip, to)
	case 4:
		p = asksLease(t, src&api.MaxMac, pick(r, 1, 3, 2))
		p.Ip.Src = pick(r, 0, ip)
	case 5, 6:
		p = tcp(src, dst, ip, to, sport, dport)
	default:
		p = udp(src, dst, ip, to, sport, dport)
	}
	if p.IsIp {
		p.Ip.Ttl = pick(r, 0, 1, 2, 3, 9, 64, 64, 255)
	}
	if r.Intn(15) == 0 {
		p = tagged(p, r.Intn(3))
	}
	return p
}

// reaches tells whether a path of switches and routers leads from a switch's port to another one.
func reaches(rows []api.Row, from, to string) bool {
	find := func(kind int, name string) api.Row {
		return rows[slices.IndexFunc(rows, func(r api.Row) bool { return r.Kind == kind && r.Name == name })]
	}
	type node struct{ kind, name any }
	had := map[node]bool{{api.RowSwitch, find(api.RowPort, from).Owner}: true}
	for range rows {
		for _, r := range rows {
			if r.Kind == api.RowPort && r.Peer != "" {
				a, b := node{api.RowSwitch, r.Owner}, node{api.RowRouter, find(api.RowRouterPort, r.Peer).Owner}
				if had[a] || had[b] {
					had[a], had[b] = true, true
				}
			}
		}
	}
	return had[node{api.RowSwitch, find(api.RowPort, to).Owner}]
}

// P24.1 to P24.4: whatever transactions, frames and ticks there are, a World is as hosts with the programs of its rows;
// what comes out does so where a path leads; and what was refused has changed nothing.
func TestAsHosts(t *testing.T) {
	var emitted, refused, taken, remembered int
	for seed := range int64(60) {
		r := rand.New(rand.NewSource(seed))
		n := anyNet(t, r)
		var last []api.Emission
		for range 60 {
			switch r.Intn(14) {
			case 0:
				before, k := n.Rows(), n.Keys()
				l := adds(anyRow(r), anyRow(r))[:1+r.Intn(2)]
				if r.Intn(2) == 0 && len(before) > 0 {
					l = append(l, dels(pick(r, before...))...)
				}
				if e, _ := n.Apply(l); e != api.OK {
					refused++
					if !slices.EqualFunc(before, n.Rows(), nbdb.Same) || !sameKeys(k, n.Keys()) {
						t.Fatalf("seed %d: a refused transaction changed something", seed)
					}
					n.sameConns(t)
					continue
				}
				taken++
				n.install(t)
				n.sameConns(t)
			case 1:
				n.tick(t, r.Intn(40))
				n.sameConns(t)
			case 2, 3, 4, 5:
				// What came out is answered.
				if len(last) > 0 {
					e := pick(r, last...)
					if p, _ := packet.Parse([]byte(e.Frame)); p.IsIp && p.L4.Kind >= api.KindUdp && !eth.Multicast(p.Eth.Dst) {
						if slices.ContainsFunc(n.places, func(p api.Place) bool { return p.Name == e.Port }) {
							last = n.inject(t, e.Port, printed(t, withTtl(turned(p), 64)))
							emitted += len(last)
						}
					}
				}
			default:
				if len(n.places) == 0 {
					continue
				}
				port := pick(r, n.places...).Name
				rows := n.Rows()
				at := slices.IndexFunc(rows, func(r api.Row) bool { return r.Kind == api.RowPort && r.Name == port })
				frame := printed(t, anyPacket(t, r, n, rows[at]))
				if r.Intn(10) == 0 {
					frame[r.Intn(len(frame))] ^= 1 << r.Intn(8)
				}
				got := n.inject(t, port, frame)
				for _, e := range got {
					if !reaches(rows, port, e.Port) {
						t.Fatalf("seed %d: from %s to %s, where no path leads", seed, port, e.Port)
					}
				}
				if len(got) > 0 {
					last = got
				}
				emitted += len(got)
			}
			for _, p := range n.places {
				remembered += len(n.Conns(p.Name))
			}
		}
	}
	if emitted < 600 || refused < 50 || taken < 50 || remembered < 1000 {
		t.Errorf("%d frames came out, %d transactions were refused, %d taken, %d connections were there", emitted, refused, taken, remembered)
	}
}

// P24.3, and P3 of the whole: on whatever hosts ports are, the same comes out, and the same is remembered.
func TestWhereverPortsAre(t *testing.T) {
	for seed := range int64(20) {
		r := rand.New(rand.NewSource(seed))
		n := anyNet(t, r)
		w := n.Fork()
		for range 40 {
			if len(n.places) == 0 {
				break
			}
			port := pick(r, n.places...).Name
			rows := n.Rows()
			at := slices.IndexFunc(rows, func(r api.Row) bool { return r.Kind == api.RowPort && r.Name == port })
			frame := printed(t, anyPacket(t, r, n, rows[at]))
			if r.Intn(4) == 0 {
				n.change(t, adds(bind(pick(r, n.places...).Name, r.Intn(5)))...)
			}
			got := n.inject(t, port, frame)
			want, _ := w.Inject(port, frame)
			if !slices.Equal(got, want) || !slices.Equal(n.Conns(port), w.Conns(port)) {
				t.Fatalf("seed %d: %s\nnot %s", seed, tell(got), tell(want))
			}
		}
	}
}
