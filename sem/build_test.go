package sem_test

import (
	"cmp"
	"fmt"
	"slices"
	"testing"

	"skein/api"
	"skein/fabric"
	"skein/keys"
	"skein/lower"
	"skein/nbdb"
	"skein/packet"
	"skein/sem"
)

// addr is an address of four numbers.
func addr(a, b, c, d uint32) uint32 {
	return a<<24 | b<<16 | c<<8 | d
}

func sw(name string) api.Row { return api.Row{Kind: api.RowSwitch, Name: name} }

func router(name string) api.Row { return api.Row{Kind: api.RowRouter, Name: name} }

func vif(name, owner string, mac uint64, ip uint32) api.Row {
	return api.Row{Kind: api.RowPort, Name: name, Owner: owner, Mac: mac, Ip: ip}
}

// flagged is a VIF with port security, with DHCP.
func flagged(r api.Row, security, dhcp bool) api.Row {
	r.Flag, r.Flag2 = security, dhcp
	return r
}

func link(name, owner, peer string) api.Row {
	return api.Row{Kind: api.RowPort, Name: name, Owner: owner, Peer: peer}
}

func routerPort(name, owner string, mac uint64, ip uint32, plen int) api.Row {
	return api.Row{Kind: api.RowRouterPort, Name: name, Owner: owner, Mac: mac, Ip: ip, Num: plen}
}

func route(owner string, ip uint32, plen int, via uint32, port string) api.Row {
	return api.Row{Kind: api.RowRoute, Owner: owner, Ip: ip, Num: plen, Ip2: via, Peer: port}
}

func nat(owner, port string, external, internal uint32) api.Row {
	return api.Row{Kind: api.RowNat, Owner: owner, Peer: port, Ip: external, Ip2: internal}
}

func acl(owner string, to bool, priority int, text string, does int) api.Row {
	return api.Row{Kind: api.RowAcl, Owner: owner, Flag: to, Num: priority, Text: text, Num2: does}
}

func vip(owner string, proto int, ip uint32, port int, ways ...api.Way) api.Row {
	return api.Row{Kind: api.RowVip, Owner: owner, Num: proto, Ip: ip, Num2: port, Ways: ways}
}

func bind(name string, host int) api.Row { return api.Row{Kind: api.RowBind, Name: name, Num: host} }

// adds is rows that come.
func adds(rows ...api.Row) []api.Change {
	var l []api.Change
	for _, r := range rows {
		l = append(l, api.Change{Row: r})
	}
	return l
}

// dels is rows that go.
func dels(rows ...api.Row) []api.Change {
	l := adds(rows...)
	for i := range l {
		l[i].Del = true
	}
	return l
}

// pair is a World, and a fabric with the programs of its rows: whatever is done to both, they tell the same.
type pair struct {
	*sem.World
	hosts  *fabric.Fabric
	places []api.Place
}

func newPair(t *testing.T, room int, rows ...api.Row) *pair {
	t.Helper()
	w, e := sem.New(room)
	f, fault := fabric.New(room)
	if e != api.OK || fault != api.OK {
		t.Fatalf("New: %d, %d", e, fault)
	}
	n := &pair{World: w, hosts: f}
	n.change(t, adds(rows...)...)
	return n
}

// change makes changes that are taken.
func (n *pair) change(t *testing.T, l ...api.Change) {
	t.Helper()
	if e, at := n.Apply(l); e != api.OK || at != 0 {
		t.Fatalf("Apply: %d at %d", e, at)
	}
	n.install(t)
}

// install has the fabric be as the World's rows and keys say.
func (n *pair) install(t *testing.T) {
	t.Helper()
	rows, k := n.Rows(), n.Keys()
	var places []api.Place
	for _, r := range rows {
		if r.Kind != api.RowBind {
			continue
		}
		at := slices.IndexFunc(rows, func(p api.Row) bool { return p.Kind == api.RowPort && p.Name == r.Name })
		key, _ := keys.Find(k.Ports, r.Name)
		dp, _ := keys.Find(k.Switches, rows[at].Owner)
		places = append(places, api.Place{Name: r.Name, Key: key, Dp: dp, Host: r.Num})
	}
	for _, old := range n.places {
		at := slices.IndexFunc(places, func(p api.Place) bool { return p.Name == old.Name })
		if at < 0 {
			n.hosts.Empty(old.Host, old.Key)
		} else if places[at].Host != old.Host {
			n.hosts.Carry(old.Key, old.Host, places[at].Host)
		}
	}
	n.places = places
	if e := n.hosts.Places(places); e != api.OK {
		t.Fatalf("Places: %d", e)
	}
	used := lower.Hosts(rows)
	for host := range api.MaxHosts {
		var l []api.Flow
		if slices.Contains(used, host) {
			l = lower.Program(rows, k, host)
		}
		if e := n.hosts.Install(host, l); e != api.OK {
			t.Fatalf("Install: %d", e)
		}
	}
}

// inject has bytes come in at a port of both.
func (n *pair) inject(t *testing.T, port string, frame []byte) []api.Emission {
	t.Helper()
	got, e := n.Inject(port, frame)
	want, _, _, fault := n.hosts.Inject(port, frame)
	slices.SortFunc(want, byPort)
	if e != fault || !slices.Equal(got, want) {
		t.Fatalf("in at %s %x:\nthe World: %d, %s\nthe hosts: %d, %s", port, frame, e, tell(got), fault, tell(want))
	}
	n.sameConns(t)
	return got
}

func byPort(a, b api.Emission) int {
	return cmp.Or(cmp.Compare(a.Port, b.Port), cmp.Compare(a.Frame, b.Frame))
}

// sameConns asks that both have the same connections.
func (n *pair) sameConns(t *testing.T) {
	t.Helper()
	for _, p := range n.places {
		if got, want := n.Conns(p.Name), n.hosts.Conns(p.Host, p.Key); !slices.Equal(got, want) {
			t.Fatalf("%s: the World: %+v, the hosts: %+v", p.Name, got, want)
		}
	}
}

func (n *pair) tick(t *testing.T, count int) {
	t.Helper()
	if e, fault := n.Tick(count), n.hosts.Tick(count); e != api.OK || fault != api.OK {
		t.Fatalf("Tick: %d, %d", e, fault)
	}
}

// out is a packet that comes out at a port.
type out struct {
	port string
	p    api.Packet
}

// gives asks what comes out of a packet that comes in at a port.
func (n *pair) gives(t *testing.T, what, port string, p api.Packet, want ...out) {
	t.Helper()
	got := n.inject(t, port, printed(t, p))
	var all []api.Emission
	for _, o := range want {
		all = append(all, api.Emission{Port: o.port, Frame: string(printed(t, o.p))})
	}
	slices.SortFunc(all, byPort)
	if !slices.Equal(got, all) {
		t.Errorf("%s: %s\nnot: %s", what, tell(got), tell(all))
	}
}

// conns is the sources and destinations of a VIF's connections.
func (n *pair) conns(port string) [][2]uint32 {
	var l [][2]uint32
	for _, c := range n.Conns(port) {
		l = append(l, [2]uint32{c.Orig.Src, c.Orig.Dst})
	}
	return l
}

func printed(t *testing.T, p api.Packet) []byte {
	t.Helper()
	b, e := packet.Print(p)
	if e != api.OK {
		t.Fatalf("Print of %+v: %d", p, e)
	}
	return b
}

// tell is emissions as a text.
func tell(l []api.Emission) string {
	text := fmt.Sprint(len(l))
	for _, e := range l {
		p, _ := packet.Parse([]byte(e.Frame))
		text += fmt.Sprintf("\n  at %s: %+v", e.Port, p)
	}
	return text
}

const everybody = 1<<48 - 1

func plain(src, dst uint64) api.Packet {
	return api.Packet{Eth: api.Eth{Src: src, Dst: dst, Type: 0x86dd}, Body: "body"}
}

func udp(src, dst uint64, from, to uint32, sport, dport int) api.Packet {
	return api.Packet{Eth: api.Eth{Src: src, Dst: dst, Type: api.TypeIp}, IsIp: true, Ip: api.Ip{Ttl: 9, Proto: api.ProtoUdp, Src: from, Dst: to}, L4: api.L4{Kind: api.KindUdp, Sport: sport, Dport: dport, Data: "data"}}
}

func tcp(src, dst uint64, from, to uint32, sport, dport int) api.Packet {
	p := udp(src, dst, from, to, sport, dport)
	p.Ip.Proto, p.L4.Kind = api.ProtoTcp, api.KindTcp
	return p
}

// icmp is an echo, or a message of another type.
func icmp(src, dst uint64, from, to uint32, kind, code int) api.Packet {
	p := udp(src, dst, from, to, 0, 0)
	p.Ip.Proto, p.L4 = api.ProtoIcmp, api.L4{Kind: api.KindIcmp, Type: kind, Code: code, Rest: 7 << 16, Data: "ping"}
	return p
}

// fragment is the second part of an IPv4 packet.
func fragment(src, dst uint64, from, to uint32) api.Packet {
	p := udp(src, dst, from, to, 0, 0)
	p.Ip.Frag, p.L4 = 100, api.L4{Data: "rest"}
	return p
}

// asks is an ARP request.
func asks(src uint64, spa, tpa uint32) api.Packet {
	return api.Packet{Eth: api.Eth{Src: src, Dst: everybody, Type: api.TypeArp}, IsArp: true, Arp: api.Arp{Op: 1, Sha: src, Spa: spa, Tpa: tpa}, Pad: "pad"}
}

// answered is the answer to an ARP request, from a Mac.
func answered(p api.Packet, mac uint64) api.Packet {
	p.Eth.Dst, p.Eth.Src = p.Eth.Src, mac
	p.Arp = api.Arp{Op: 2, Sha: mac, Spa: p.Arp.Tpa, Tha: p.Arp.Sha, Tpa: p.Arp.Spa}
	return p
}

func tagged(p api.Packet, tag int) api.Packet {
	p.Eth.Tagged, p.Eth.Tag = true, tag
	return p
}

func withTtl(p api.Packet, ttl int) api.Packet {
	p.Ip.Ttl = ttl
	return p
}

// between is a packet with other Ethernet addresses.
func between(p api.Packet, src, dst uint64) api.Packet {
	p.Eth.Src, p.Eth.Dst = src, dst
	return p
}

// turned is the answer to a UDP or TCP packet.
func turned(p api.Packet) api.Packet {
	p.Eth.Src, p.Eth.Dst = p.Eth.Dst, p.Eth.Src
	p.Ip.Src, p.Ip.Dst = p.Ip.Dst, p.Ip.Src
	p.L4.Sport, p.L4.Dport = p.L4.Dport, p.L4.Sport
	return p
}

// sameRows asks for the rows of a World.
func sameRows(t *testing.T, what string, w *sem.World, want []api.Row) {
	t.Helper()
	if got := w.Rows(); !slices.EqualFunc(got, want, nbdb.Same) {
		t.Errorf("%s: %+v, not %+v", what, got, want)
	}
}

func sameKeys(a, b api.Keys) bool {
	return slices.Equal(a.Switches, b.Switches) && slices.Equal(a.Routers, b.Routers) && slices.Equal(a.Ports, b.Ports) && slices.Equal(a.RouterPorts, b.RouterPorts)
}
