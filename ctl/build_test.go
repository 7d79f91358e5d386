package ctl_test

import (
	"cmp"
	"fmt"
	"slices"
	"testing"

	"skein/api"
	"skein/ctl"
	"skein/dpath"
	"skein/geneve"
	"skein/keys"
	"skein/lower"
	"skein/nbdb"
	"skein/packet"
	"skein/sem"
)

// addr is an address of four numbers.
func addr(a, b, c, d uint32) uint32 {
	return a<<24 | b<<16 | c<<8 | d
}

func sw(name string) api.Row { return api.Row{Kind: api.RowSwitch, Name: name} }

func router(name string) api.Row { return api.Row{Kind: api.RowRouter, Name: name} }

func vif(name, owner string, mac uint64, ip uint32) api.Row {
	return api.Row{Kind: api.RowPort, Name: name, Owner: owner, Mac: mac, Ip: ip}
}

// flagged is a VIF with port security, with DHCP.
func flagged(r api.Row, security, dhcp bool) api.Row {
	r.Flag, r.Flag2 = security, dhcp
	return r
}

func link(name, owner, peer string) api.Row {
	return api.Row{Kind: api.RowPort, Name: name, Owner: owner, Peer: peer}
}

func routerPort(name, owner string, mac uint64, ip uint32, plen int) api.Row {
	return api.Row{Kind: api.RowRouterPort, Name: name, Owner: owner, Mac: mac, Ip: ip, Num: plen}
}

func route(owner string, ip uint32, plen int, via uint32, port string) api.Row {
	return api.Row{Kind: api.RowRoute, Owner: owner, Ip: ip, Num: plen, Ip2: via, Peer: port}
}

func nat(owner, port string, external, internal uint32) api.Row {
	return api.Row{Kind: api.RowNat, Owner: owner, Peer: port, Ip: external, Ip2: internal}
}

func acl(owner string, to bool, priority int, text string, does int) api.Row {
	return api.Row{Kind: api.RowAcl, Owner: owner, Flag: to, Num: priority, Text: text, Num2: does}
}

func vip(owner string, proto int, ip uint32, port int, ways ...api.Way) api.Row {
	return api.Row{Kind: api.RowVip, Owner: owner, Num: proto, Ip: ip, Num2: port, Ways: ways}
}

func bind(name string, host int) api.Row { return api.Row{Kind: api.RowBind, Name: name, Num: host} }

// adds is rows that come.
func adds(rows ...api.Row) []api.Change {
	var l []api.Change
	for _, r := range rows {
		l = append(l, api.Change{Row: r})
	}
	return l
}

// dels is rows that go.
func dels(rows ...api.Row) []api.Change {
	l := adds(rows...)
	for i := range l {
		l[i].Del = true
	}
	return l
}

// both is a controller, and a World: whatever is done to both, they tell the same.
type both struct {
	*ctl.Ctl
	world *sem.World
}

func newBoth(t *testing.T, room int, rows ...api.Row) *both {
	t.Helper()
	c, e := ctl.New(room)
	w, fault := sem.New(room)
	if e != api.OK || fault != api.OK {
		t.Fatalf("New: %d, %d", e, fault)
	}
	b := &both{c, w}
	b.change(t, adds(rows...)...)
	return b
}

// programs is those of all hosts.
func programs(c *ctl.Ctl) [api.MaxHosts][]api.Flow {
	var out [api.MaxHosts][]api.Flow
	for host := range out {
		out[host] = c.Program(host)
	}
	return out
}

// apply has both make changes, and asks for all that is told of them, and that follows.
func (b *both) apply(t *testing.T, l ...api.Change) (api.Delta, api.Errno) {
	t.Helper()
	before, rows, k := programs(b.Ctl), b.Rows(), b.Keys()
	d, e, at := b.Apply(l)
	if fault, place := b.world.Apply(l); e != fault || at != place {
		t.Fatalf("Apply: %d at %d, of the World %d at %d", e, at, fault, place)
	}
	if want := deltaOf(t, before, programs(b.Ctl)); d != want {
		t.Fatalf("Apply: %+v, not %+v", d, want)
	}
	if e != api.OK && (d != (api.Delta{}) || !slices.EqualFunc(rows, b.Rows(), nbdb.Same) || !sameKeys(k, b.Keys())) {
		t.Fatalf("Apply: beside %d: %+v, %+v, %+v", e, d, b.Rows(), b.Keys())
	}
	b.isRight(t)
	return d, e
}

// change makes changes that are taken.
func (b *both) change(t *testing.T, l ...api.Change) api.Delta {
	t.Helper()
	d, e := b.apply(t, l...)
	if e != api.OK {
		t.Fatalf("Apply: %d", e)
	}
	return d
}

// deltaOf is what dpath's Set tells, host by host.
func deltaOf(t *testing.T, before, behind [api.MaxHosts][]api.Flow) api.Delta {
	t.Helper()
	var d api.Delta
	for host := range before {
		if slices.EqualFunc(before[host], behind[host], dpath.Same) {
			continue
		}
		p, e := dpath.New(before[host])
		if e != api.OK {
			t.Fatalf("host %d: %d", host, e)
		}
		added, removed, e := p.Set(behind[host])
		if e != api.OK {
			t.Fatalf("host %d: %d", host, e)
		}
		d.Added += added
		d.Removed += removed
		if added+removed > 0 {
			d.Hosts++
		}
	}
	return d
}

// isRight asks that rows and keys are the World's, programs those that are compiled from scratch, and connections the
// World's.
func (b *both) isRight(t *testing.T) {
	t.Helper()
	rows, k := b.Rows(), b.Keys()
	if !slices.EqualFunc(rows, b.world.Rows(), nbdb.Same) || !sameKeys(k, b.world.Keys()) {
		t.Fatalf("rows %+v with keys %+v, of the World %+v with %+v", rows, k, b.world.Rows(), b.world.Keys())
	}
	used := lower.Hosts(rows)
	for host, l := range programs(b.Ctl) {
		var want []api.Flow
		if slices.Contains(used, host) {
			want = lower.Program(rows, k, host)
		}
		if !slices.EqualFunc(l, want, dpath.Same) {
			t.Fatalf("host %d: %d flows, not %d", host, len(l), len(want))
		}
	}
	b.sameConns(t)
}

// sameConns asks that both have the same connections, of all ports.
func (b *both) sameConns(t *testing.T) {
	t.Helper()
	for _, k := range b.Keys().Ports {
		if got, want := b.Conns(k.Name), b.world.Conns(k.Name); !slices.Equal(got, want) {
			t.Fatalf("%s: %+v, of the World %+v", k.Name, got, want)
		}
	}
}

// inject has bytes come in at a port of both.
func (b *both) inject(t *testing.T, port string, frame []byte) []api.Emission {
	t.Helper()
	got, e := b.Inject(port, frame)
	want, fault := b.world.Inject(port, frame)
	if e != fault || !slices.Equal(got, want) {
		t.Fatalf("in at %s %x:\nthe controller: %d, %s\nthe World: %d, %s", port, frame, e, tell(got), fault, tell(want))
	}
	b.sameConns(t)
	if e == api.OK {
		b.rightWires(t)
	}
	if most := api.MaxBudget * (1 + len(b.Wires())); b.Goes() < 0 || b.Goes() > most {
		t.Fatalf("%d goes", b.Goes())
	}
	return got
}

// rightWires asks that what was on wires are Geneve packets of the datapath of the port that each is for, to the host on
// which that is (P2 of the whole).
func (b *both) rightWires(t *testing.T) {
	t.Helper()
	rows, k := b.Rows(), b.Keys()
	for _, w := range b.Wires() {
		x, e := geneve.Decap([]byte(w.Packet))
		if e != api.OK {
			t.Fatalf("Decap: %d", e)
		}
		ports, ok := geneve.Key(x.Options, 0x102, 0x80)
		name, has := keys.Name(k.Ports, int(ports&0xffff))
		if !ok || !has {
			t.Fatalf("options %v of no port", x.Options)
		}
		row := rows[slices.IndexFunc(rows, func(r api.Row) bool { return r.Kind == api.RowPort && r.Name == name })]
		dp, _ := keys.Find(k.Switches, row.Owner)
		host, has := lower.Where(rows, name)
		if !has || host != w.To || w.From == w.To || x.Vni != dp || x.Src != addr(10, 255, 0, uint32(w.From)) || x.Dst != addr(10, 255, 0, uint32(w.To)) {
			t.Fatalf("from %d to %d: %+v for %s of the datapath %d on the host %d", w.From, w.To, x, name, dp, host)
		}
	}
}

func (b *both) tick(t *testing.T, n int) {
	t.Helper()
	if e, fault := b.Tick(n), b.world.Tick(n); e != api.OK || fault != api.OK {
		t.Fatalf("Tick: %d, %d", e, fault)
	}
	b.sameConns(t)
}

// out is a packet that comes out at a port.
type out struct {
	port string
	p    api.Packet
}

// gives asks what comes out of a packet that comes in at a port, and over how many wires it goes.
func (b *both) gives(t *testing.T, what, port string, p api.Packet, wires int, want ...out) {
	t.Helper()
	got := b.inject(t, port, printed(t, p))
	var all []api.Emission
	for _, o := range want {
		all = append(all, api.Emission{Port: o.port, Frame: string(printed(t, o.p))})
	}
	slices.SortFunc(all, func(a, b api.Emission) int { return cmp.Or(cmp.Compare(a.Port, b.Port), cmp.Compare(a.Frame, b.Frame)) })
	if !slices.Equal(got, all) || len(b.Wires()) != wires {
		t.Errorf("%s: over %d wires %s\nnot: %s", what, len(b.Wires()), tell(got), tell(all))
	}
}

func printed(t *testing.T, p api.Packet) []byte {
	t.Helper()
	b, e := packet.Print(p)
	if e != api.OK {
		t.Fatalf("Print of %+v: %d", p, e)
	}
	return b
}

// tell is emissions as a text.
func tell(l []api.Emission) string {
	text := fmt.Sprint(len(l))
	for _, e := range l {
		p, _ := packet.Parse([]byte(e.Frame))
		text += fmt.Sprintf("\n  at %s: %+v", e.Port, p)
	}
	return text
}

const everybody = 1<<48 - 1

func plain(src, dst uint64) api.Packet {
	return api.Packet{Eth: api.Eth{Src: src, Dst: dst, Type: 0x86dd}, Body: "body"}
}

func udp(src, dst uint64, from, to uint32, sport, dport int) api.Packet {
	return api.Packet{Eth: api.Eth{Src: src, Dst: dst, Type: api.TypeIp}, IsIp: true, Ip: api.Ip{Ttl: 9, Proto: api.ProtoUdp, Src: from, Dst: to}, L4: api.L4{Kind: api.KindUdp, Sport: sport, Dport: dport, Data: "data"}}
}

func tcp(src, dst uint64, from, to uint32, sport, dport int) api.Packet {
	p := udp(src, dst, from, to, sport, dport)
	p.Ip.Proto, p.L4.Kind = api.ProtoTcp, api.KindTcp
	return p
}

// icmp is an echo, or a message of another type.
func icmp(src, dst uint64, from, to uint32, kind, code int) api.Packet {
	p := udp(src, dst, from, to, 0, 0)
	p.Ip.Proto, p.L4 = api.ProtoIcmp, api.L4{Kind: api.KindIcmp, Type: kind, Code: code, Rest: 7 << 16, Data: "ping"}
	return p
}

// fragment is the second part of an IPv4 packet.
func fragment(src, dst uint64, from, to uint32) api.Packet {
	p := udp(src, dst, from, to, 0, 0)
	p.Ip.Frag, p.L4 = 100, api.L4{Data: "rest"}
	return p
}

// asks is an ARP request.
func asks(src uint64, spa, tpa uint32) api.Packet {
	return api.Packet{Eth: api.Eth{Src: src, Dst: everybody, Type: api.TypeArp}, IsArp: true, Arp: api.Arp{Op: 1, Sha: src, Spa: spa, Tpa: tpa}, Pad: "pad"}
}

// answered is the answer to an ARP request, from a Mac.
func answered(p api.Packet, mac uint64) api.Packet {
	p.Eth.Dst, p.Eth.Src = p.Eth.Src, mac
	p.Arp = api.Arp{Op: 2, Sha: mac, Spa: p.Arp.Tpa, Tha: p.Arp.Sha, Tpa: p.Arp.Spa}
	return p
}

func tagged(p api.Packet, tag int) api.Packet {
	p.Eth.Tagged, p.Eth.Tag = true, tag
	return p
}

func withTtl(p api.Packet, ttl int) api.Packet {
	p.Ip.Ttl = ttl
	return p
}

// between is a packet with other Ethernet addresses.
func between(p api.Packet, src, dst uint64) api.Packet {
	p.Eth.Src, p.Eth.Dst = src, dst
	return p
}

// turned is the answer to a UDP or TCP packet.
func turned(p api.Packet) api.Packet {
	p.Eth.Src, p.Eth.Dst = p.Eth.Dst, p.Eth.Src
	p.Ip.Src, p.Ip.Dst = p.Ip.Dst, p.Ip.Src
	p.L4.Sport, p.L4.Dport = p.L4.Dport, p.L4.Sport
	return p
}

func sameKeys(a, b api.Keys) bool {
	return slices.Equal(a.Switches, b.Switches) && slices.Equal(a.Routers, b.Routers) && slices.Equal(a.Ports, b.Ports) && slices.Equal(a.RouterPorts, b.RouterPorts)
}
