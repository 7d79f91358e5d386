package ctl_test

import (
	"math/rand"
	"slices"
	"testing"

	"skein/api"
	"skein/ctl"
	"skein/dhcp"
	"skein/eth"
	"skein/nbdb"
	"skein/packet"
)

// pick is one of a list.
func pick[T any](r *rand.Rand, l ...T) T {
	return l[r.Intn(len(l))]
}

// The names and addresses that random networks have: so few that they meet.
var (
	switches    = []string{"s", "t", "u"}
	routers     = []string{"q", "r", "v"}
	vifs        = []string{"a", "b", "c", "d", "e", "f", "g", "h"}
	links       = []string{"k", "l", "m", "n", "o", "p"}
	routerPorts = []string{"q1", "q2", "r1", "r2", "r3", "v1", "v2"}
)

func anyIp(r *rand.Rand) uint32 {
	return addr(10, 0, uint32(r.Intn(3)), pick[uint32](r, 1, 2, 3, 4, 5, 250, 251, 252, 253))
}

// anyFar is an address that is no port's, but may be a VIP's, or one of a NAT or a route.
func anyFar(r *rand.Rand) uint32 {
	return pick(r, addr(10, 0, 0, 99), addr(10, 0, 1, 99), addr(1, 1, 1, 1), addr(1, 1, 1, 2), addr(99, 0, 0, 1))
}

var aclTexts = []string{
	"1", "udp", "tcp", "icmp", "arp", "ip4", "!ip4", "tp.dst == {53, 80}", "tp.src >= 1000 && udp", "inport == a", "outport == b", "inport != \"a\" && ip4", "ip4.src == 10.0.0.0/24",
	"ip4.dst == 10.0.1.0/24 && !icmp", "outport == 0", "ip.ttl < 3", "eth.dst == ff:ff:ff:ff:ff:ff", "inport == k || inport == l", "vlan.tag != 0", "ip.proto == 17 && tp.dst != 53", "icmp.type == 8",
}

// anyRow is a row that may or may not be well formed among others.
func anyRow(r *rand.Rand) api.Row {
	switch r.Intn(12) {
	case 0:
		return sw(pick(r, switches...))
	case 1:
		return router(pick(r, routers...))
	case 2, 3:
		name := pick(r, vifs...)
		return flagged(vif(name, pick(r, switches...), 0x0a+uint64(slices.Index(vifs, name)), anyIp(r)), r.Intn(4) == 0, r.Intn(4) == 0)
	case 4:
		name := pick(r, routerPorts...)
		return routerPort(name, name[:1], 0x50+uint64(slices.Index(routerPorts, name)), anyIp(r), pick(r, 24, 24, 24, 16, 25, 30))
	case 5:
		return link(pick(r, links...), pick(r, switches...), pick(r, routerPorts...))
	case 6:
		port := pick(r, routerPorts...)
		plen := pick(r, 0, 8, 24, 24, 32)
		return route(port[:1], (anyIp(r)|1)&^(1<<(32-plen)-1), plen, anyIp(r), port)
	case 7:
		port := pick(r, routerPorts...)
		return nat(port[:1], port, anyFar(r), anyIp(r))
	case 8:
		ways := []api.Way{{Ip: anyIp(r), Port: pick(r, 53, 5353)}, {Ip: anyIp(r), Port: pick(r, 53, 80)}}
		return vip(pick(r, switches...), pick(r, api.ProtoUdp, api.ProtoTcp), anyFar(r), pick(r, 53, 80), ways[:1+r.Intn(2)]...)
	case 9, 10:
		return acl(pick(r, switches...), r.Intn(2) == 0, r.Intn(6), pick(r, aclTexts...), 1+r.Intn(3))
	}
	return bind(pick(r, vifs...), anyHost(r))
}

// anyNet is a network of rows that came one by one; those that were refused are none of it. Switches, routers, VIFs and
// links come ahead of what hangs on them.
func anyNet(t *testing.T, r *rand.Rand) *both {
	db := nbdb.New()
	take := func(row api.Row) { db.Apply(adds(row)) }
	for i, name := range switches {
		take(sw(name))
		take(router(routers[i]))
	}
	for i, name := range vifs {
		take(flagged(vif(name, switches[i%3], 0x0a+uint64(i), addr(10, 0, uint32(i%3), uint32(1+i/3))), r.Intn(4) == 0, r.Intn(4) == 0))
	}
	for i, name := range routerPorts {
		in := r.Intn(3)
		take(routerPort(name, name[:1], 0x50+uint64(i), addr(10, 0, uint32(in), 250+uint32(i%4)), 24))
		if i < len(links) {
			take(link(links[i], switches[in], name))
		}
	}
	for range 30 {
		take(anyRow(r))
	}
	for _, name := range vifs {
		take(bind(name, anyHost(r)))
	}
	if r.Intn(2) == 0 {
		for _, row := range db.Rows() {
			if row.Kind == api.RowAcl && row.Num2 == api.AclDrop {
				db.Apply(dels(row))
			}
		}
	}
	return newBoth(t, 3, db.Rows()...)
}

func anyHost(r *rand.Rand) int {
	return pick(r, 0, 1, 2, 3, api.MaxHosts-1, r.Intn(api.MaxHosts))
}

// bound is the names of the VIFs that are bound.
func (b *both) bound() []string {
	var out []string
	for _, r := range b.Rows() {
		if r.Kind == api.RowBind {
			out = append(out, r.Name)
		}
	}
	return out
}

// anyFrame is the bytes of a frame that a bound VIF sends, some of them wrong.
func (b *both) anyFrame(t *testing.T, r *rand.Rand, port string) []byte {
	rows := b.Rows()
	at := slices.IndexFunc(rows, func(r api.Row) bool { return r.Kind == api.RowPort && r.Name == port })
	frame := printed(t, anyPacket(t, r, b, rows[at]))
	switch r.Intn(20) {
	case 0, 1:
		frame[r.Intn(len(frame))] ^= 1 << r.Intn(8)
	case 2:
		frame = frame[:r.Intn(len(frame))]
	}
	return frame
}

// macs is the Macs of a network's ports, and some more.
func (n *both) macs() []uint64 {
	l := []uint64{everybody, 1 << 40, 0x77}
	for _, r := range n.Rows() {
		if r.Mac != 0 {
			l = append(l, r.Mac)
		}
	}
	return l
}

// anyPacket is a packet that a VIF sends: as it should, for the most part.
func anyPacket(t *testing.T, r *rand.Rand, n *both, from api.Row) api.Packet {
	src, ip := from.Mac, from.Ip
	if r.Intn(8) == 0 {
		src = pick(r, n.macs()...)
	}
	if r.Intn(8) == 0 {
		ip = pick(r, 0, anyIp(r), 1<<32-1)
	}
	dst, to := pick(r, n.macs()...), pick(r, anyIp(r), anyIp(r), anyIp(r), anyFar(r))
	sport, dport := pick(r, 1000, 1001, 53), pick(r, 53, 80, 1000)
	var p api.Packet
	switch r.Intn(10) {
	case 0:
		p = plain(src, dst)
	case 1:
		p = asks(src, ip, to)
		p.Arp.Op = pick(r, 1, 1, 1, 2)
	case 2:
		p = icmp(src, dst, ip, to, pick(r, 8, 8, 0, 3), pick(r, 0, 0, 1))
	case 3:
		p = fragment(src, dst, ip, to)
	case 4:
		p = asksLease(t, src&api.MaxMac, pick(r, 1, 3, 2))
		p.Ip.Src = pick(r, 0, ip)
	case 5, 6:
		p = tcp(src, dst, ip, to, sport, dport)
	default:
		p = udp(src, dst, ip, to, sport, dport)
	}
	if p.IsIp {
		p.Ip.Ttl = pick(r, 0, 1, 2, 3, 9, 64, 64, 255)
	}
	if r.Intn(15) == 0 {
		p = tagged(p, r.Intn(3))
	}
	return p
}

// reaches tells whether a path of switches and routers leads from a switch's port to another one.
func reaches(rows []api.Row, from, to string) bool {
	find := func(kind int, name string) api.Row {
		return rows[slices.IndexFunc(rows, func(r api.Row) bool { return r.Kind == kind && r.Name == name })]
	}
	type node struct{ kind, name any }
	had := map[node]bool{{api.RowSwitch, find(api.RowPort, from).Owner}: true}
	for range rows {
		for _, r := range rows {
			if r.Kind == api.RowPort && r.Peer != "" {
				a, b := node{api.RowSwitch, r.Owner}, node{api.RowRouter, find(api.RowRouterPort, r.Peer).Owner}
				if had[a] || had[b] {
					had[a], had[b] = true, true
				}
			}
		}
	}
	return had[node{api.RowSwitch, find(api.RowPort, to).Owner}]
}

// asksLease is a DHCP message of that type from a Mac.
func asksLease(t *testing.T, mac uint64, kind int, more ...api.Option) api.Packet {
	t.Helper()
	m := api.Dhcp{Op: 1, Xid: 0x1234, Flags: 0x8000, Chaddr: mac, Options: append([]api.Option{{Code: api.OptType, Data: string(rune(kind))}}, more...)}
	b, e := dhcp.Encode(m)
	if e != api.OK {
		t.Fatal(e)
	}
	p := udp(mac, everybody, 0, 1<<32-1, 68, 67)
	p.L4.Data = string(b)
	return p
}

// anyChanges is a transaction that may or may not be taken: moves for the most part, rows that come and go.
func (b *both) anyChanges(r *rand.Rand) []api.Change {
	var l []api.Change
	for range 1 + r.Intn(3) {
		switch rows := b.Rows(); r.Intn(6) {
		case 0:
			l = append(l, adds(anyRow(r))...)
		case 1:
			if len(rows) > 0 {
				l = append(l, dels(pick(r, rows...))...)
			}
		case 2:
			// A row goes and comes in one.
			if len(rows) > 0 {
				row := pick(r, rows...)
				l = append(l, append(dels(row), adds(row)...)...)
			}
		case 3:
			l = append(l, dels(bind(pick(r, vifs...), 0))...)
		default:
			l = append(l, adds(bind(pick(r, vifs...), anyHost(r)))...)
		}
	}
	return l
}

// answer has a VIF answer what came out of it, if that can be answered, and it is bound still.
func (b *both) answer(t *testing.T, e api.Emission) []api.Emission {
	t.Helper()
	p, _ := packet.Parse([]byte(e.Frame))
	if !p.IsIp || p.L4.Kind < api.KindUdp || eth.Multicast(p.Eth.Dst) || !slices.Contains(b.bound(), e.Port) {
		return nil
	}
	return b.inject(t, e.Port, printed(t, withTtl(turned(p), 64)))
}

// P25.1 to P25.4, P25.6, and P7 of the whole: whatever transactions, frames and ticks there are, a controller is as a
// World; its programs are those that are compiled from scratch; what was refused has changed nothing; and what comes out
// does so where a path leads.
func TestAsWorld(t *testing.T) {
	var emitted, refused, taken, remembered, wired int
	for seed := range int64(30) {
		r := rand.New(rand.NewSource(seed))
		n := anyNet(t, r)
		var last []api.Emission
		for range 70 {
			switch r.Intn(14) {
			case 0, 1:
				// A refused one changes nothing: apply asks for no change in programs, rows and connections.
				if _, e := n.apply(t, n.anyChanges(r)...); e == api.OK {
					taken++
				} else {
					refused++
				}
			case 2:
				n.tick(t, r.Intn(40))
			case 3, 4, 5:
				if len(last) > 0 {
					got := n.answer(t, pick(r, last...))
					last = append(last, got...)
					emitted += len(got)
				}
			default:
				ports := n.bound()
				if len(ports) == 0 {
					continue
				}
				port := pick(r, ports...)
				got := n.inject(t, port, n.anyFrame(t, r, port))
				for _, e := range got {
					if !reaches(n.Rows(), port, e.Port) {
						t.Fatalf("seed %d: from %s to %s, where no path leads", seed, port, e.Port)
					}
				}
				if len(got) > 0 {
					last = got
				}
				emitted += len(got)
				wired += len(n.Wires())
			}
			for _, port := range n.bound() {
				remembered += len(n.Conns(port))
			}
		}
	}
	if emitted < 500 || refused < 50 || taken < 50 || remembered < 1000 || wired < 200 {
		t.Errorf("%d frames came out over %d wires, %d transactions were refused, %d taken, %d connections were there", emitted, wired, refused, taken, remembered)
	}
}

// P25.5: on whatever hosts ports are, and however they move: the same comes out, and the same is remembered.
func TestWhereverPortsAre(t *testing.T) {
	emitted := 0
	for seed := range int64(20) {
		r := rand.New(rand.NewSource(seed))
		n := anyNet(t, r)
		others := []*ctl.Ctl{n.Fork(), n.Fork()}
		for _, port := range n.bound() {
			others[1].Apply(adds(bind(port, 5)))
		}
		for range 40 {
			ports := n.bound()
			if len(ports) == 0 {
				break
			}
			port := pick(r, ports...)
			frame := n.anyFrame(t, r, port)
			if r.Intn(4) == 0 {
				others[0].Apply(adds(bind(pick(r, ports...), anyHost(r)), bind(pick(r, ports...), anyHost(r))))
			}
			want := n.inject(t, port, frame)
			emitted += len(want)
			for i, c := range others {
				got, e := c.Inject(port, frame)
				if e != api.OK || !slices.Equal(got, want) {
					t.Fatalf("seed %d: %s\nnot %s", seed, tell(got), tell(want))
				}
				for _, p := range ports {
					if !slices.Equal(c.Conns(p), n.Conns(p)) {
						t.Fatalf("seed %d: %d: %s: %+v, not %+v", seed, i, p, c.Conns(p), n.Conns(p))
					}
				}
			}
			if len(others[1].Wires()) != 0 {
				t.Fatalf("seed %d: all are on one host: %+v", seed, others[1].Wires())
			}
		}
	}
	if emitted < 100 {
		t.Errorf("%d frames came out", emitted)
	}
}

// P25.3: whatever way rows came, programs are the same, if the keys are.
func TestWhateverWay(t *testing.T) {
	for seed := range int64(8) {
		r := rand.New(rand.NewSource(seed))
		n := anyNet(t, r)
		for range 10 {
			n.apply(t, n.anyChanges(r)...)
		}
		// All goes but the names that have keys, and comes again.
		f := n.Fork()
		var bare, rest []api.Row
		for _, row := range n.Rows() {
			switch row.Kind {
			case api.RowSwitch, api.RowRouter, api.RowPort, api.RowRouterPort:
				bare = append(bare, row)
			default:
				rest = append(rest, row)
			}
		}
		d, e, at := f.Apply(dels(rest...))
		if e != api.OK || at != 0 || d.Added != 0 {
			t.Fatalf("seed %d: %+v, %d at %d", seed, d, e, at)
		}
		if len(f.Rows()) != len(bare) || deltaOf(t, programs(f), [api.MaxHosts][]api.Flow{}) != (api.Delta{}) {
			t.Fatalf("seed %d: something is left", seed)
		}
		r.Shuffle(len(rest), func(i, j int) { rest[i], rest[j] = rest[j], rest[i] })
		back, e, at := f.Apply(adds(rest...))
		if e != api.OK || at != 0 || back.Added != d.Removed || back.Removed != 0 || back.Hosts != d.Hosts {
			t.Fatalf("seed %d: %+v, and back %+v, %d at %d", seed, d, back, e, at)
		}
		if d := deltaOf(t, programs(n.Ctl), programs(f)); d != (api.Delta{}) {
			t.Fatalf("seed %d: %+v", seed, d)
		}
	}
}
