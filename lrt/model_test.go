package lrt_test

import (
	"fmt"
	"math/rand"
	"slices"
	"testing"

	"skein/api"
	"skein/dpath"
	"skein/keys"
	"skein/lrt"
	"skein/lsw"
	"skein/nbdb"
)

const (
	all16 = 1<<16 - 1
	all24 = 1<<24 - 1
	all32 = 1<<32 - 1
	all48 = 1<<48 - 1
)

func term(f int, value, mask uint64) api.Term {
	return api.Term{Field: f, Value: value, Mask: mask}
}

func isIp() api.Term { return term(api.EthType, 0x0800, all16) }

func goTo(table int) api.Act { return api.Act{Kind: api.ActGo, Table: table} }

func set(f int, value, mask uint64) api.Act {
	return api.Act{Kind: api.ActSet, Field: f, Value: value, Mask: mask}
}

// The model writes each flow's terms out, in order and with their needs, and has pipelines put the flows in order.
type model struct {
	rows  []api.Row
	k     api.Keys
	name  string
	dp    uint64
	flows []api.Flow
}

// add takes a flow, if it is not there already.
func (m *model) add(table, priority int, terms []api.Term, acts ...api.Act) {
	f := api.Flow{Table: table, Priority: priority, Terms: terms, Acts: acts}
	if !slices.ContainsFunc(m.flows, func(g api.Flow) bool { return dpath.Same(f, g) }) {
		m.flows = append(m.flows, f)
	}
}

// t is terms: those of the frame, the datapath, those behind it.
func (m *model) t(frame []api.Term, behind ...api.Term) []api.Term {
	return append(append(slices.Clone(frame), term(api.Datapath, m.dp, all24)), behind...)
}

// key is the key of a router's port.
func (m *model) key(name string) uint64 {
	n, _ := keys.Find(m.k.RouterPorts, name)
	return uint64(n)
}

func (m *model) in(port string) api.Term { return term(api.InPort, m.key(port), all16) }

func (m *model) of(kind int) []api.Row {
	return slices.DeleteFunc(slices.Clone(m.rows), func(r api.Row) bool { return r.Kind != kind || r.Owner != m.name })
}

// row is the first row that is as asked for.
func (m *model) row(is func(r api.Row) bool) (api.Row, bool) {
	at := slices.IndexFunc(m.rows, is)
	if at < 0 {
		return api.Row{}, false
	}
	return m.rows[at], true
}

// linkOf is the switch's port whose Peer a router's port is.
func (m *model) linkOf(port string) (api.Row, bool) {
	return m.row(func(r api.Row) bool { return r.Kind == api.RowPort && r.Peer == port })
}

func (m *model) back(port string, first api.Act) []api.Act {
	l, ok := m.linkOf(port)
	if !ok {
		return []api.Act{first}
	}
	dp, _ := keys.Find(m.k.Switches, l.Owner)
	in, _ := keys.Find(m.k.Ports, l.Name)
	return []api.Act{first, set(api.Datapath, uint64(dp), all24), set(api.InPort, uint64(in), all16), set(api.OutPort, 0, all16), set(api.CtState, 0, 255),
		set(api.Reg0, 0, all32), set(api.Reg1, 0, all32), set(api.Reg3, 0, all32), goTo(0)}
}

func fault(kind int, p api.Row) api.Act {
	return api.Act{Kind: api.ActError, Port: kind, Value: p.Mac, From: int(p.Ip)}
}

// to is the terms of packets to a prefix, and its bits.
func to(r api.Row) ([]api.Term, uint64) {
	bits := uint64(0)
	for i := range r.Num {
		bits |= 1 << (31 - i)
	}
	if bits == 0 {
		return []api.Term{isIp()}, 0
	}
	return []api.Term{isIp(), term(api.IpDst, uint64(r.Ip)&bits, bits)}, bits
}

func (m *model) port(p api.Row) {
	key, ip := m.key(p.Name), uint64(p.Ip)
	m.add(20, 50, m.t([]api.Term{term(api.EthDst, p.Mac, all48), isIp(), term(api.VlanTag, 0, 1<<17-1)}, m.in(p.Name)), goTo(21))
	for _, in := range m.of(api.RowRouterPort) {
		ping := []api.Term{isIp(), term(api.IpDst, ip, all32), term(api.IpProto, 1, 255), term(api.IcmpType, 8, 255), term(api.IcmpCode, 0, 255)}
		m.add(21, 100, m.t(ping, m.in(in.Name)), m.back(in.Name, api.Act{Kind: api.ActEcho})...)
	}
	m.add(21, 90, m.t([]api.Term{isIp(), term(api.IpDst, ip, all32)}))
	m.add(23, 100, m.t([]api.Term{isIp(), term(api.IpTtl, 0, 0xfe)}, m.in(p.Name)), m.back(p.Name, fault(11, p))...)
	prefix, _ := to(p)
	m.add(24, 2*p.Num+2, m.t(prefix), api.Act{Kind: api.ActHop}, api.Act{Kind: api.ActMove, From: api.IpDst, Field: api.Reg1}, set(api.Reg3, key, all32), goTo(25))
	m.add(24, 0, m.t(nil, m.in(p.Name)), m.back(p.Name, fault(3, p))...)
	l, ok := m.linkOf(p.Name)
	if !ok {
		return
	}
	for _, q := range m.neighbours(l) {
		m.add(25, 50, m.t(nil, term(api.Reg1, uint64(q.Ip), all32), term(api.Reg3, key, all32)), set(api.EthDst, q.Mac, all48), set(api.EthSrc, p.Mac, all48), goTo(26))
	}
	for c := uint64(0); c <= 15; c++ {
		m.add(27, 50, m.t(nil, term(api.Reg2, c, all32), term(api.Reg3, key, all32)), m.back(p.Name, set(api.Reg2, c+1, all32))...)
	}
}

// neighbours is the rows with the addresses of a link's neighbours.
func (m *model) neighbours(l api.Row) []api.Row {
	var out []api.Row
	for _, q := range m.rows {
		if q.Kind == api.RowPort && q.Owner == l.Owner && q.Name != l.Name {
			if q.Peer != "" {
				q, _ = m.row(func(r api.Row) bool { return r.Kind == api.RowRouterPort && r.Name == q.Peer })
			}
			out = append(out, q)
		}
	}
	return out
}

func (m *model) rest() {
	for _, r := range m.of(api.RowRoute) {
		prefix, _ := to(r)
		m.add(24, 2*r.Num+1, m.t(prefix), api.Act{Kind: api.ActHop}, set(api.Reg1, uint64(r.Ip2), all32), set(api.Reg3, m.key(r.Peer), all32), goTo(25))
	}
	for _, r := range m.of(api.RowNat) {
		m.add(22, 100, m.t([]api.Term{isIp(), term(api.IpDst, uint64(r.Ip), all32)}, m.in(r.Peer)), set(api.IpDst, uint64(r.Ip2), all32), goTo(23))
		m.add(26, 100, m.t([]api.Term{isIp(), term(api.IpSrc, uint64(r.Ip2), all32)}, term(api.Reg3, m.key(r.Peer), all32)), set(api.IpSrc, uint64(r.Ip), all32), goTo(27))
	}
	for _, table := range []int{21, 22, 23, 26} {
		m.add(table, 0, m.t(nil), goTo(table+1))
	}
}

// next is the best of a router's ways: twice the length of its prefix, and one more of a port's.
func (m *model) next(ip uint32) (port string, via uint32, ok bool) {
	best := -1
	try := func(r api.Row, is int, p string, by uint32) {
		if _, bits := to(r); (r.Ip^ip)&uint32(bits) == 0 && 2*r.Num+is > best {
			port, via, ok, best = p, by, true, 2*r.Num+is
		}
	}
	for _, r := range m.of(api.RowRouterPort) {
		try(r, 1, r.Name, ip)
	}
	for _, r := range m.of(api.RowRoute) {
		try(r, 0, r.Peer, r.Ip2)
	}
	return port, via, ok
}

// modelOf is the flows of a router, as the model has them.
func modelOf(t *testing.T, rows []api.Row, k api.Keys, name string) []api.Flow {
	t.Helper()
	dp, _ := keys.Find(k.Routers, name)
	m := &model{rows: rows, k: k, name: name, dp: uint64(dp)}
	for _, p := range m.of(api.RowRouterPort) {
		m.port(p)
	}
	m.rest()
	p, e := dpath.New(m.flows)
	if e != api.OK {
		t.Fatalf("the model: %d\n%s", e, tell(m.flows))
	}
	return p.Flows()
}

// someIp is one of few addresses, some of them at the edges of prefixes.
func someIp(chance *rand.Rand) uint32 {
	ends := []uint32{0, 1, 2, 127, 128, 254, 255}
	return addr([]uint32{10, 10, 11, 138}[chance.Intn(4)], 0, uint32(chance.Intn(2)), ends[chance.Intn(len(ends))])
}

// network is rows that are well formed, by chance: those that can't be beside the others are left out.
func network(chance *rand.Rand) []api.Row {
	rows := []api.Row{sw("s"), sw("t"), sw("u"), router("q"), router("r"), router("o")}
	try := func(l ...api.Row) {
		if more := append(slices.Clone(rows), l...); nbdb.Check(more) == api.OK {
			rows = more
		}
	}
	some := func(l ...string) string { return l[chance.Intn(len(l))] }
	plen := func(least int) int { return max(least, []int{0, 1, 8, 9, 24, 25, 31, 32}[chance.Intn(8)]) }
	ports := map[string][]string{}
	for i := range chance.Intn(9) {
		owner, name := some("q", "r", "r"), fmt.Sprint("p", 9-i)
		before := len(rows)
		try(routerPort(name, owner, uint64(1+chance.Intn(5)), someIp(chance), plen(1)))
		if len(rows) > before {
			ports[owner] = append(ports[owner], name)
		}
		if chance.Intn(4) > 0 {
			try(link(fmt.Sprint("l", i), some("s", "t"), name))
		}
	}
	for i := range chance.Intn(6) {
		try(vif(fmt.Sprint("v", i), some("s", "t", "u"), uint64(1+chance.Intn(9)), someIp(chance)))
	}
	for range 8 {
		owner := some("q", "r")
		if len(ports[owner]) > 0 {
			n := plen(0)
			try(route(owner, someIp(chance)&uint32(uint64(all32)<<(32-n)), n, someIp(chance), some(ports[owner]...)))
			try(nat(owner, some(ports[owner]...), someIp(chance), someIp(chance)))
		}
	}
	chance.Shuffle(len(rows), func(i, j int) { rows[i], rows[j] = rows[j], rows[i] })
	return rows
}

// someKeys is right keys of rows, and of names that they have not, with numbers by chance.
func someKeys(t *testing.T, chance *rand.Rand, rows []api.Row) api.Keys {
	k := keysOf(t, append(slices.Clone(rows), sw("zz"), router("yy"), vif("xx", "s", 1, 1), routerPort("ww", "r", 1, 1, 1)))
	change := func(most int, lists ...[]api.Key) {
		had := map[int]bool{0: true}
		for _, l := range lists {
			for i := range l {
				for l[i].Num = 0; had[l[i].Num]; {
					l[i].Num = chance.Intn(most + 1)
				}
				had[l[i].Num] = true
			}
		}
	}
	change([]int{40, api.MaxVni}[chance.Intn(2)], k.Switches, k.Routers)
	change([]int{100, all16}[chance.Intn(2)], k.Ports, k.RouterPorts)
	return k
}

// P21.1, P21.2, P21.3: routers of all kinds, as the model has them, however rows are handed in.
func TestAsModel(t *testing.T) {
	chance := rand.New(rand.NewSource(21))
	for range 200 {
		rows := network(chance)
		k := someKeys(t, chance, rows)
		var all []api.Flow
		for _, name := range []string{"q", "r", "o"} {
			got, want := compiled(t, rows, k, name), modelOf(t, rows, k, name)
			if !slices.EqualFunc(got, want, dpath.Same) {
				t.Fatalf("%s of\n%+v\n%+v:\n%s\nnot\n%s", name, rows, k, tell(got), tell(want))
			}
			all = append(all, got...)
			m := &model{rows: rows, name: name}
			for range 20 {
				ip := someIp(chance)
				port, via, ok := lrt.Next(rows, name, ip)
				if p, v, is := m.next(ip); port != p || via != v || ok != is {
					t.Errorf("Next of %x in %s of %+v: %s, %x, %v, not %s, %x, %v", ip, name, rows, port, via, ok, p, v, is)
				}
			}
			for _, p := range m.of(api.RowRouterPort) {
				m.sameResolve(t, p)
			}
		}
		for _, name := range []string{"s", "t", "u"} {
			all = append(all, lsw.Compile(rows, k, name)...)
		}
		if _, e := dpath.New(all); e != api.OK {
			t.Errorf("all together: %d: %+v", e, rows)
		}
		other := slices.Clone(rows)
		chance.Shuffle(len(other), func(i, j int) { other[i], other[j] = other[j], other[i] })
		if a, b := lrt.Compile(rows, k, "r"), lrt.Compile(other, k, "r"); !slices.EqualFunc(a, b, dpath.Same) {
			t.Errorf("in another order: %+v", rows)
		}
	}
}

// sameResolve asks Resolve of a router's port for all addresses that rows have.
func (m *model) sameResolve(t *testing.T, p api.Row) {
	t.Helper()
	macs := map[uint32]uint64{}
	if l, ok := m.linkOf(p.Name); ok {
		for _, q := range m.neighbours(l) {
			macs[q.Ip] = q.Mac
		}
	}
	for _, r := range append(m.rows, api.Row{Ip: 5}) {
		want, is := macs[r.Ip]
		if mac, ok := lrt.Resolve(m.rows, p.Name, r.Ip); mac != want || ok != is {
			t.Errorf("Resolve of %x by %s in %+v: %x, %v, not %x, %v", r.Ip, p.Name, m.rows, mac, ok, want, is)
		}
	}
}
