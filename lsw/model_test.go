package lsw_test

import (
	"cmp"
	"fmt"
	"math/rand"
	"slices"
	"testing"

	"skein/api"
	"skein/dpath"
	"skein/keys"
	"skein/lsw"
	"skein/nbdb"
)

const (
	all16 = 1<<16 - 1
	all24 = 1<<24 - 1
	all32 = 1<<32 - 1
	all48 = 1<<48 - 1
)

func term(f int, value, mask uint64) api.Term {
	return api.Term{Field: f, Value: value, Mask: mask}
}

// The model writes each flow's terms out, in order and with their needs, and has pipelines put the flows in order.
type model struct {
	rows  []api.Row
	k     api.Keys
	name  string
	dp    uint64
	flows []api.Flow
}

func (m *model) add(table, priority int, terms []api.Term, acts ...api.Act) {
	m.flows = append(m.flows, api.Flow{Table: table, Priority: priority, Terms: terms, Acts: acts})
}

// t is terms: those of the frame, the datapath, those behind it.
func (m *model) t(frame []api.Term, behind ...api.Term) []api.Term {
	return append(append(slices.Clone(frame), term(api.Datapath, m.dp, all24)), behind...)
}

func (m *model) elsewhere(table, next int) {
	m.add(table, 0, m.t(nil), goTo(next))
}

func goTo(table int) api.Act { return api.Act{Kind: api.ActGo, Table: table} }

func set(f int, value, mask uint64) api.Act {
	return api.Act{Kind: api.ActSet, Field: f, Value: value, Mask: mask}
}

func back() api.Act { return api.Act{Kind: api.ActMove, From: api.InPort, Field: api.OutPort} }

func isIp() api.Term  { return term(api.EthType, 0x0800, all16) }
func isArp() api.Term { return term(api.EthType, 0x0806, all16) }

// in is the term of a port at which a frame comes in.
func (m *model) in(p api.Row) api.Term { return term(api.InPort, m.key(p), all16) }

func (m *model) key(p api.Row) uint64 {
	n, _ := keys.Find(m.k.Ports, p.Name)
	return uint64(n)
}

// of is the switch's rows of a kind, sorted by what parts rows of that kind and owner in the rows' order.
func (m *model) of(kind int) []api.Row {
	var out []api.Row
	for _, r := range m.rows {
		if r.Kind == kind && r.Owner == m.name {
			out = append(out, r)
		}
	}
	slices.SortFunc(out, func(a, b api.Row) int {
		if kind == api.RowPort {
			return cmp.Compare(a.Name, b.Name)
		}
		return cmp.Compare(fmt.Sprintf("%v %09d %09d %09x", a.Flag, a.Num, a.Num2, a.Ip), fmt.Sprintf("%v %09d %09d %09x", b.Flag, b.Num, b.Num2, b.Ip))
	})
	return out
}

// peer is the row of the router's port that a link leads to.
func (m *model) peer(p api.Row) api.Row {
	at := slices.IndexFunc(m.rows, func(r api.Row) bool { return r.Kind == api.RowRouterPort && r.Name == p.Peer })
	return m.rows[at]
}

// known is the addresses of a port.
func (m *model) known(p api.Row) (uint64, uint64) {
	if p.Peer != "" {
		p = m.peer(p)
	}
	return p.Mac, uint64(p.Ip)
}

func (m *model) lease(p api.Row) (api.Lease, uint64) {
	for _, l := range m.of(api.RowPort) {
		if l.Peer != "" {
			r := m.peer(l)
			mask := uint32(0)
			for i := range r.Num {
				mask |= 1 << (31 - i)
			}
			return api.Lease{Mac: p.Mac, Ip: p.Ip, Server: r.Ip, Router: r.Ip, Mask: mask, Time: 3600}, r.Mac
		}
	}
	return api.Lease{Mac: p.Mac, Ip: p.Ip, Server: addr(169, 254, 169, 254), Mask: addr(255, 255, 255, 0), Time: 3600}, 0x0a0000000001
}

func (m *model) isStateful() bool {
	for _, r := range m.of(api.RowAcl) {
		if r.Num2 == 3 {
			return true
		}
	}
	return len(m.of(api.RowVip)) > 0
}

func (m *model) source() {
	m.add(0, 100, m.t([]api.Term{term(api.EthSrc, 1<<40, 1<<40)}))
	for _, p := range m.of(api.RowPort) {
		mac, ip := term(api.EthSrc, p.Mac, all48), uint64(p.Ip)
		switch {
		case p.Peer != "":
			m.add(0, 30, m.t(nil, m.in(p)), goTo(8))
		case !p.Flag:
			m.add(0, 30, m.t(nil, m.in(p)), goTo(1))
		default:
			m.add(0, 50, m.t([]api.Term{mac, isArp(), term(api.ArpSha, p.Mac, all48), term(api.ArpSpa, ip, all32)}, m.in(p)), goTo(1))
			m.add(0, 50, m.t([]api.Term{mac, isIp(), term(api.IpSrc, ip, all32)}, m.in(p)), goTo(1))
			m.add(0, 50, m.t([]api.Term{mac, isIp(), term(api.IpSrc, 0, all32), term(api.IpDst, all32, all32), term(api.IpProto, 17, 255), term(api.TpSrc, 68, all16), term(api.TpDst, 67, all16)}, m.in(p)), goTo(1))
			m.add(0, 40, m.t([]api.Term{isIp()}, m.in(p)))
			m.add(0, 40, m.t([]api.Term{isArp()}, m.in(p)))
			m.add(0, 30, m.t([]api.Term{mac}, m.in(p)), goTo(1))
		}
	}
}

// track is tables 1, 2, 5, or 10, 11, 12.
func (m *model) track(look, rules, commit, zone int, isTo bool) {
	if m.isStateful() {
		m.add(look, 10, m.t([]api.Term{isIp()}), api.Act{Kind: api.ActCtLook, Port: zone}, goTo(rules))
		m.add(rules, 65535, m.t([]api.Term{term(api.CtState, 2, 2)}), goTo(rules+1))
	}
	m.elsewhere(look, rules)
	m.elsewhere(rules, rules+1)
	var names []string
	for _, p := range m.of(api.RowPort) {
		names = append(names, p.Name)
	}
	for _, r := range m.of(api.RowAcl) {
		l, _ := nbdb.Acl(names, m.k.Ports, r.Text)
		for _, terms := range l {
			at := slices.IndexFunc(append(terms, term(api.Fields+1, 0, 0)), func(x api.Term) bool { return x.Field > api.Datapath })
			whole := m.t(terms[:at], terms[at:]...)
			acts := map[int][]api.Act{1: {goTo(rules + 1)}, 3: {set(api.Reg0, 1, 1), goTo(rules + 1)}}[r.Num2]
			if r.Flag == isTo {
				m.add(rules, 1000+r.Num, whole, acts...)
			}
		}
	}
	m.add(commit, 10, m.t(nil, term(api.Reg0, 1, 1)), api.Act{Kind: api.ActCtCommit, Port: zone}, goTo(commit+1))
	m.elsewhere(commit, commit+1)
}

func (m *model) balance() {
	ips := map[uint32]bool{}
	for _, v := range m.of(api.RowVip) {
		m.add(3, 100, m.t([]api.Term{isIp(), term(api.IpDst, uint64(v.Ip), all32), term(api.IpProto, uint64(v.Num), 255), term(api.TpDst, uint64(v.Num2), all16), term(api.CtState, 1, 1)}),
			api.Act{Kind: api.ActPick, Ways: v.Ways}, set(api.Reg0, 3, 3), goTo(4))
		for _, w := range v.Ways {
			ips[w.Ip] = true
		}
	}
	for ip := range ips {
		to := term(api.IpDst, uint64(ip), all32)
		m.add(4, 100, m.t([]api.Term{isIp(), to}, term(api.Reg0, 2, 2)), set(api.EthDst, m.macOf(ip), all48), goTo(5))
		m.add(4, 90, m.t([]api.Term{isIp(), to, term(api.CtState, 2|8, 2|4|8)}), set(api.EthDst, m.macOf(ip), all48), goTo(5))
	}
	m.elsewhere(3, 4)
	m.elsewhere(4, 5)
}

// macOf is the Mac of the VIF with an Ip.
func (m *model) macOf(ip uint32) uint64 {
	for _, p := range m.of(api.RowPort) {
		if p.Peer == "" && p.Ip == ip {
			return p.Mac
		}
	}
	return 0
}

func (m *model) answer() {
	macs := map[uint64]uint64{}
	for _, v := range slices.Backward(m.of(api.RowVip)) {
		macs[uint64(v.Ip)] = m.macOf(v.Ways[0].Ip)
	}
	for _, p := range m.of(api.RowPort) {
		mac, ip := m.known(p)
		macs[ip] = mac
		m.add(6, 110, m.t([]api.Term{isArp(), term(api.ArpOp, 1, all16), term(api.ArpTpa, ip, all32)}, m.in(p)), goTo(7))
		if p.Flag2 {
			lease, from := m.lease(p)
			m.add(7, 100, m.t([]api.Term{isIp(), term(api.IpDst, all32, all32), term(api.IpProto, 17, 255), term(api.TpSrc, 68, all16), term(api.TpDst, 67, all16)}, m.in(p)),
				api.Act{Kind: api.ActDhcp, Lease: lease, Value: from}, back(), goTo(9))
		}
	}
	for ip, mac := range macs {
		m.add(6, 100, m.t([]api.Term{isArp(), term(api.ArpOp, 1, all16), term(api.ArpTpa, ip, all32)}), api.Act{Kind: api.ActArp, Value: mac}, back(), goTo(9))
	}
	m.elsewhere(6, 7)
	m.elsewhere(7, 8)
}

func (m *model) spread() {
	for _, p := range m.of(api.RowPort) {
		var clones []api.Act
		for _, q := range m.of(api.RowPort) {
			if q.Name != p.Name {
				clones = append(clones, api.Act{Kind: api.ActClone, Acts: []api.Act{set(api.OutPort, m.key(q), all16), goTo(9)}})
			}
		}
		mac, _ := m.known(p)
		m.add(8, 70, m.t([]api.Term{term(api.EthDst, 1<<40, 1<<40)}, m.in(p)), clones...)
		m.add(8, 60, m.t([]api.Term{term(api.EthDst, mac, all48)}, m.in(p)))
		m.add(8, 50, m.t([]api.Term{term(api.EthDst, mac, all48)}), set(api.OutPort, m.key(p), all16), goTo(9))
		if p.Peer != "" {
			far, _ := keys.Find(m.k.RouterPorts, p.Peer)
			dp, _ := keys.Find(m.k.Routers, m.peer(p).Owner)
			m.add(9, 50, m.t(nil, term(api.OutPort, m.key(p), all16)), set(api.Datapath, uint64(dp), all24), set(api.InPort, uint64(far), all16), set(api.OutPort, 0, all16),
				set(api.CtState, 0, 255), set(api.Reg0, 0, all32), set(api.Reg1, 0, all32), set(api.Reg3, 0, all32), goTo(20))
		}
	}
}

// modelOf is the flows of a switch, as the model has them.
func modelOf(t *testing.T, rows []api.Row, k api.Keys, name string) []api.Flow {
	t.Helper()
	dp, _ := keys.Find(k.Switches, name)
	m := &model{rows: rows, k: k, name: name, dp: uint64(dp)}
	m.source()
	m.track(1, 2, 5, 0, false)
	m.balance()
	m.answer()
	m.spread()
	m.track(10, 11, 12, 1, true)
	p, e := dpath.New(m.flows)
	if e != api.OK {
		t.Fatalf("the model: %d\n%s", e, tell(m.flows))
	}
	return p.Flows()
}

// network is rows that are well formed, by chance.
func network(chance *rand.Rand) []api.Row {
	flip := func() bool { return chance.Intn(2) == 0 }
	texts := []string{"1", "0", "ip4", "arp || tcp", "udp && tp.dst > 1000", "ip4.src != 10.0.0.0/8", "eth.type == 0x800 && arp", "inport == a0", "outport != \"a0\"", "inport == {a0, b0} || icmp", "!(inport == a1 && tcp)"}
	rows := []api.Row{sw("s"), sw("t"), router("q"), router("r")}
	for i, owner := range []string{"s", "t", "s", "s", "t"} {
		for _, prefix := range []string{"a", "b", "-", "_"} {
			p := vif(fmt.Sprint(prefix, i), owner, uint64(1+chance.Intn(1000)), addr(10, 0, 0, uint32(1+chance.Intn(99))))
			p.Flag, p.Flag2 = flip(), flip()
			if flip() {
				rows = append(rows, p)
			}
		}
		if flip() {
			far := fmt.Sprint("far", i)
			rows = append(rows, routerPort(far, []string{"q", "r"}[chance.Intn(2)], uint64(2000+i), addr(10, uint32(i), 0, 200), 16+i), link(fmt.Sprint("l", 9-i), owner, far))
		}
	}
	for range chance.Intn(8) {
		rows = append(rows, acl([]string{"s", "t"}[chance.Intn(2)], flip(), chance.Intn(4), texts[chance.Intn(len(texts))], 1+chance.Intn(3)))
	}
	for range chance.Intn(4) {
		owner := []string{"s", "t"}[chance.Intn(2)]
		var ways []api.Way
		for _, r := range rows {
			if r.Kind == api.RowPort && r.Owner == owner && r.Peer == "" && flip() {
				ways = append(ways, way(r.Ip, chance.Intn(3)))
			}
		}
		rows = append(rows, vip(owner, []int{6, 17}[chance.Intn(2)], addr(10, 0, 0, uint32(240+chance.Intn(2))), chance.Intn(3), ways...))
	}
	if nbdb.Check(rows) != api.OK {
		return network(chance)
	}
	chance.Shuffle(len(rows), func(i, j int) { rows[i], rows[j] = rows[j], rows[i] })
	return rows
}

// someKeys is right keys of rows, and of names that they have not, with numbers by chance.
func someKeys(t *testing.T, chance *rand.Rand, rows []api.Row) api.Keys {
	k := keysOf(t, append(slices.Clone(rows), sw("zz"), router("yy"), vif("xx", "s", 1, 1), routerPort("ww", "r", 1, 1, 1)))
	change := func(most int, lists ...[]api.Key) {
		had := map[int]bool{0: true}
		for _, l := range lists {
			for i := range l {
				for l[i].Num = 0; had[l[i].Num]; {
					l[i].Num = chance.Intn(most + 1)
				}
				had[l[i].Num] = true
			}
		}
	}
	change([]int{40, api.MaxVni}[chance.Intn(2)], k.Switches, k.Routers)
	change([]int{100, all16}[chance.Intn(2)], k.Ports, k.RouterPorts)
	return k
}

// P20.1, P20.2, P20.3: switches of all kinds, as the model has them, however rows are handed in.
func TestAsModel(t *testing.T) {
	chance := rand.New(rand.NewSource(20))
	for range 400 {
		rows := network(chance)
		k := someKeys(t, chance, rows)
		for _, name := range []string{"s", "t"} {
			got, want := compiled(t, rows, k, name), modelOf(t, rows, k, name)
			if !slices.EqualFunc(got, want, dpath.Same) {
				t.Fatalf("%s of\n%+v\n%+v:\n%s\nnot\n%s", name, rows, k, tell(got), tell(want))
			}
			m := &model{rows: rows, name: name}
			if lsw.Stateful(rows, name) != m.isStateful() {
				t.Errorf("Stateful: %+v", rows)
			}
			for _, p := range m.of(api.RowPort) {
				lease, from, ok := lsw.Lease(rows, p.Name)
				want, mac := m.lease(p)
				if p.Peer != "" {
					want, mac = api.Lease{}, 0
				}
				if lease != want || from != mac || ok != (p.Peer == "") {
					t.Errorf("%s: %+v, %#x, %v, not %+v, %#x", p.Name, lease, from, ok, want, mac)
				}
			}
		}
		other := slices.Clone(rows)
		chance.Shuffle(len(other), func(i, j int) { other[i], other[j] = other[j], other[i] })
		if a, b := lsw.Compile(rows, k, "s"), lsw.Compile(other, k, "s"); !slices.EqualFunc(a, b, dpath.Same) {
			t.Errorf("in another order: %+v", rows)
		}
	}
}
