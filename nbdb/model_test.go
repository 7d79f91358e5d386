package nbdb_test

import (
	"cmp"
	"fmt"
	"math/rand"
	"slices"
	"strings"
	"testing"

	"skein/api"
	"skein/expr"
	"skein/nbdb"
	"skein/norm"
)

// What the document says, once more, by looking at each row, and at each two of them, one after the other.

func textOf(r api.Row) string {
	return fmt.Sprintf("%+v", r)
}

// modelKey is a row's key as a text. A row's Kind is part of it, whichever that is.
func modelKey(r api.Row) string {
	switch r.Kind {
	case 5:
		return fmt.Sprintf("route %q %d %d", r.Owner, r.Ip, r.Num)
	case 6:
		return fmt.Sprintf("acl %q %v %d", r.Owner, r.Flag, r.Num)
	case 7:
		return fmt.Sprintf("nat %q %q %d", r.Owner, r.Peer, r.Ip)
	case 8:
		return fmt.Sprintf("vip %q %d %d %d", r.Owner, r.Num, r.Ip, r.Num2)
	}
	return fmt.Sprintf("%d %q", r.Kind, r.Name)
}

func isModelName(s string) bool {
	const signs = "abcdefghijklmnopqrstuvwxyzABCDEFGHIJKLMNOPQRSTUVWXYZ0123456789_-"
	return len(s) >= 1 && len(s) <= 32 && strings.Trim(s, signs) == ""
}

func isModelMac(mac uint64) bool {
	return mac > 0 && mac < 1<<48 && mac>>40&1 == 0
}

// isModelRow is rule (1) of one row: what its kind uses is taken out; nothing may be left.
func isModelRow(r api.Row) bool {
	rest := r
	rest.Kind = 0
	ok := true
	named := func(s *string) { ok = ok && isModelName(*s); *s = "" }
	mac := func() { ok = ok && isModelMac(rest.Mac); rest.Mac = 0 }
	ip := func(p *uint32) { ok = ok && *p != 0; *p = 0 }
	num := func(p *int, from, to int) { ok = ok && *p >= from && *p <= to; *p = 0 }
	switch r.Kind {
	case 1, 3:
		named(&rest.Name)
	case 2:
		named(&rest.Name)
		named(&rest.Owner)
		if r.Peer != "" {
			named(&rest.Peer)
		} else {
			mac()
			ip(&rest.Ip)
			rest.Flag, rest.Flag2 = false, false
		}
	case 4:
		named(&rest.Name)
		named(&rest.Owner)
		mac()
		ip(&rest.Ip)
		num(&rest.Num, 1, 32)
	case 5:
		named(&rest.Owner)
		named(&rest.Peer)
		num(&rest.Num, 0, 32)
		ip(&rest.Ip2)
		ok = ok && uint64(r.Ip)<<min(r.Num, 32)&0xffffffff == 0
		rest.Ip = 0
	case 6:
		named(&rest.Owner)
		num(&rest.Num, 0, 32767)
		num(&rest.Num2, 1, 3)
		rest.Text, rest.Flag = "", false
	case 7:
		named(&rest.Owner)
		named(&rest.Peer)
		ip(&rest.Ip)
		ip(&rest.Ip2)
	case 8:
		named(&rest.Owner)
		ok = ok && (r.Num == 6 || r.Num == 17)
		num(&rest.Num, 6, 17)
		ip(&rest.Ip)
		num(&rest.Num2, 0, 65535)
		ok = ok && len(r.Ways) >= 1 && len(r.Ways) <= 64
		for i, w := range r.Ways {
			ok = ok && w.Port >= 0 && w.Port <= 65535 && !slices.Contains(r.Ways[:i], w)
		}
		rest.Ways = nil
	case 9:
		named(&rest.Name)
		num(&rest.Num, 0, 63)
	default:
		return false
	}
	return ok && textOf(rest) == textOf(api.Row{Ways: rest.Ways[:0]})
}

// model is rows.
type model []api.Row

func (m model) find(kind int, name string) (api.Row, bool) {
	for _, r := range m {
		if r.Kind == kind && r.Name == name {
			return r, true
		}
	}
	return api.Row{}, false
}

func (m model) has(kind int, name string) bool {
	_, ok := m.find(kind, name)
	return ok
}

// anyTwo tells whether of two rows something is so.
func (m model) anyTwo(isSo func(a, b api.Row) bool) bool {
	for i, a := range m {
		for _, b := range m[:i] {
			if isSo(a, b) || isSo(b, a) {
				return true
			}
		}
	}
	return false
}

func (m model) anyOne(isSo func(r api.Row) bool) bool {
	return slices.ContainsFunc(m, isSo)
}

// known is a port of a switch with the addresses that it is known by.
func (m model) known(r api.Row) api.Row {
	if peer, ok := m.find(4, r.Peer); ok && r.Kind == 2 {
		r.Mac, r.Ip = peer.Mac, peer.Ip
	}
	return r
}

func (m model) isStray(r api.Row) bool {
	owner := map[int]int{2: 1, 4: 3, 5: 3, 6: 1, 7: 3, 8: 1}[r.Kind]
	if owner != 0 && !m.has(owner, r.Owner) {
		return true
	}
	peer, ok := m.find(4, r.Peer)
	switch r.Kind {
	case 2:
		return r.Peer != "" && !ok
	case 5, 7:
		return !ok || peer.Owner != r.Owner
	case 9:
		p, ok := m.find(2, r.Name)
		return !ok || p.Peer != ""
	}
	return false
}

func (m model) isSwitchClash() bool {
	ports := map[string]int{}
	for _, r := range m {
		if r.Kind == 2 {
			ports[r.Owner]++
		}
	}
	for _, n := range ports {
		if n > 128 {
			return true
		}
	}
	return m.anyTwo(func(a, b api.Row) bool {
		if a.Kind != 2 || b.Kind != 2 {
			return false
		}
		x, y := m.known(a), m.known(b)
		return a.Peer != "" && a.Peer == b.Peer || a.Owner == b.Owner && (x.Mac == y.Mac || x.Ip == y.Ip)
	})
}

func (m model) isRouterClash() bool {
	return m.anyTwo(func(a, b api.Row) bool {
		switch {
		case a.Owner != b.Owner:
			return false
		case a.Kind == 4 && b.Kind == 4:
			return a.Num == b.Num && (uint64(a.Ip)^uint64(b.Ip))>>(32-a.Num) == 0
		case a.Kind == 7 && b.Kind == 4:
			return a.Ip == b.Ip
		case a.Kind == 7 && b.Kind == 7:
			return a.Peer == b.Peer && (a.Ip == b.Ip || a.Ip2 == b.Ip2)
		}
		return false
	})
}

func (m model) isVipClash() bool {
	return m.anyOne(func(v api.Row) bool {
		if v.Kind != 8 {
			return false
		}
		if m.anyOne(func(p api.Row) bool { return p.Kind == 2 && p.Owner == v.Owner && m.known(p).Ip == v.Ip }) {
			return true
		}
		for _, w := range v.Ways {
			if !m.anyOne(func(p api.Row) bool { return p.Kind == 2 && p.Owner == v.Owner && p.Peer == "" && p.Ip == w.Ip }) {
				return true
			}
		}
		return false
	})
}

func (m model) isWrongAcl(r api.Row) bool {
	if r.Kind != 6 {
		return false
	}
	var names []api.Name
	for _, p := range m {
		if p.Kind == 2 && p.Owner == r.Owner {
			names = append(names, api.Name{Text: p.Name, Num: 1})
		}
	}
	e, fault, _ := expr.Parse(r.Text, names)
	if fault != api.OK {
		return true
	}
	if _, fault = norm.Normal(e); fault != api.OK {
		return true
	}
	for _, name := range []string{"ct.state", "datapath", "reg0", "reg1", "reg2", "reg3"} {
		if strings.Contains(expr.Print(e), name) {
			return true
		}
	}
	return false
}

// check is what Check should tell.
func (m model) check() api.Errno {
	switch {
	case len(m) > 1024:
		return api.ErrFull
	case m.anyOne(func(r api.Row) bool { return !isModelRow(r) }):
		return api.ErrRow
	case m.anyTwo(func(a, b api.Row) bool { return modelKey(a) == modelKey(b) }):
		return api.ErrClash
	case m.anyOne(m.isStray):
		return api.ErrOwner
	case m.isSwitchClash(), m.isRouterClash(), m.isVipClash():
		return api.ErrClash
	case m.anyOne(m.isWrongAcl):
		return api.ErrAcl
	}
	return api.OK
}

// apply is what a transaction should leave and tell.
func (m model) apply(l []api.Change) (model, api.Errno, int) {
	now := slices.Clone(m)
	for i, c := range l {
		at := slices.IndexFunc(now, func(r api.Row) bool { return modelKey(r) == modelKey(c.Row) })
		if c.Del && at < 0 {
			return m, api.ErrNone, i
		}
		if at >= 0 {
			now = slices.Delete(now, at, at+1)
		}
		if !c.Del {
			now = append(now, c.Row)
		}
	}
	if e := now.check(); e != api.OK {
		return m, e, len(l)
	}
	slices.SortFunc(now, inModelOrder)
	return now, api.OK, 0
}

func inModelOrder(a, b api.Row) int {
	flag := map[bool]int{true: 1}
	return cmp.Or(
		a.Kind-b.Kind, strings.Compare(a.Owner, b.Owner), strings.Compare(a.Name, b.Name), strings.Compare(a.Peer, b.Peer),
		flag[a.Flag]-flag[b.Flag], cmp.Compare(a.Num, b.Num), cmp.Compare(a.Num2, b.Num2), cmp.Compare(a.Ip, b.Ip),
		cmp.Compare(a.Ip2, b.Ip2), strings.Compare(a.Text, b.Text),
	)
}

// pick is one of some, by chance.
func pick[T any](chance *rand.Rand, l ...T) T {
	return l[chance.Intn(len(l))]
}

// anyRow is a row by chance: of few names and numbers, so that many clash, and many don't.
func anyRow(chance *rand.Rand) api.Row {
	s, r := pick(chance, "s", "t"), pick(chance, "r", "q")
	mac := 0x020000000000 + uint64(1+chance.Intn(9))
	ip := func() uint32 { return addr(10, 0, uint32(chance.Intn(3)), uint32(1+chance.Intn(5))) }
	port := pick(chance, "a", "b", "c", "d", "e")
	routerPortName := pick(chance, "r1", "r2", "q1")
	switch 1 + chance.Intn(9) {
	case 1:
		return sw(pick(chance, "s", "t", "u", "r"))
	case 2:
		if chance.Intn(4) == 0 {
			return link(port, s, routerPortName)
		}
		return changed(vif(port, s, mac, ip()), func(r *api.Row) { r.Flag, r.Flag2 = chance.Intn(2) == 0, chance.Intn(2) == 0 })
	case 3:
		return router(pick(chance, "r", "q", "p", "s"))
	case 4:
		return routerPort(routerPortName, routerPortName[:1], mac, addr(10, 0, uint32(chance.Intn(3)), 200+uint32(chance.Intn(3))), pick(chance, 24, 24, 25, 16, 32))
	case 5:
		return route(r, addr(10, uint32(chance.Intn(3)), 0, 0), 16, ip(), r+pick(chance, "1", "2"))
	case 6:
		text := pick(chance, "1", "tcp", "inport == \"a\"", "outport != b && udp", "ip4.src == 10.0.0.0/8 || arp", "reg0 == 1", "tcp &&", "outport == z")
		return acl(s, chance.Intn(2) == 0, chance.Intn(3), text, 1+chance.Intn(3))
	case 7:
		return nat(r, r+pick(chance, "1", "2"), pick(chance, addr(1, 1, 1, 1), addr(1, 1, 1, 2), addr(10, 0, 0, 200)), ip())
	case 8:
		return vip(s, pick(chance, 6, 17), addr(10, 0, 0, uint32(pick(chance, 99, 98, 1, 200))), 80, api.Way{Ip: ip(), Port: 8080})
	}
	return bind(port, chance.Intn(64))
}

// spoil changes one field of a row, often to what may not be.
func spoil(chance *rand.Rand, r api.Row) api.Row {
	name := pick(chance, "", "a", "r1", "r", "s", "x y", strings.Repeat("x", 33), "ä", "-", "_9")
	num := pick(chance, -1, 0, 1, 6, 17, 32, 33, 63, 64, 65535, 65536, 32767, 32768)
	return changed(r, func(r *api.Row) {
		switch chance.Intn(13) {
		case 0:
			r.Kind = pick(chance, -1, 0, 1, 2, 3, 4, 5, 6, 7, 8, 9, 10)
		case 1:
			r.Name = name
		case 2:
			r.Owner = name
		case 3:
			r.Peer = name
		case 4:
			r.Text = name
		case 5:
			r.Mac = pick[uint64](chance, 0, 1, 1<<40, 1<<48-1, 1<<48, 0xfe<<40)
		case 6:
			r.Ip = pick[uint32](chance, 0, 1, 1<<31)
		case 7:
			r.Ip2 = pick[uint32](chance, 0, 1, 1<<31)
		case 8:
			r.Num = num
		case 9:
			r.Num2 = num
		case 10:
			r.Flag = !r.Flag
		case 11:
			r.Flag2 = !r.Flag2
		case 12:
			r.Ways = append(r.Ways, api.Way{Ip: addr(10, 0, 0, 1), Port: pick(chance, 0, 1, 8080, 65535, 65536, -1)})
		}
	})
}

// P18.1, P18.2, P18.3, P18.4: transactions by chance, held against the model, and against a DB to which its rows
// came at once.
func TestTransactionsByChance(t *testing.T) {
	told := map[api.Errno]int{}
	for seed := range int64(150) {
		chance := rand.New(rand.NewSource(seed))
		d, m := nbdb.New(), model{}
		begin := []api.Row{sw("s"), sw("t"), router("r"), router("q"), routerPort("r1", "r", 0x11, addr(10, 0, 0, 200), 24), routerPort("r2", "r", 0x12, addr(10, 0, 1, 200), 24)}
		for step := range 120 {
			l := anyChanges(chance, m)
			if step == 0 {
				l = comes(begin...)
			}
			next, want, place := m.apply(l)
			e, at := d.Apply(l)
			if e != want || at != place {
				t.Fatalf("seed %d, step %d, %+v to %s: %d, %d, not %d, %d", seed, step, l, tell(m), e, at, want, place)
			}
			m = next
			told[e]++
			has(t, "by chance", d, m)
		}
		shuffled := slices.Clone(m)
		chance.Shuffle(len(shuffled), func(i, j int) { shuffled[i], shuffled[j] = shuffled[j], shuffled[i] })
		has(t, "at once", database(t, shuffled...), d.Rows())
	}
	for _, e := range []api.Errno{api.OK, api.ErrNone, api.ErrRow, api.ErrClash, api.ErrOwner, api.ErrAcl} {
		if told[e] < 50 {
			t.Errorf("%d was told %d times", e, told[e])
		}
	}
}

// anyChanges is a transaction by chance: most rows are right, most Dels are of what is there.
func anyChanges(chance *rand.Rand, m model) []api.Change {
	var l []api.Change
	for range 1 + chance.Intn(3) {
		r := anyRow(chance)
		if chance.Intn(12) == 0 {
			r = spoil(chance, r)
		}
		del := chance.Intn(5) == 0
		if del && len(m) > 0 && chance.Intn(3) > 0 {
			r = m[chance.Intn(len(m))]
		}
		l = append(l, api.Change{Del: del, Row: r})
	}
	return l
}

// P18.1: rows by chance, held against the model.
func TestCheckByChance(t *testing.T) {
	told := map[api.Errno]int{}
	for seed := range int64(6000) {
		chance := rand.New(rand.NewSource(seed))
		l := net()
		for range 1 + chance.Intn(3) {
			at := chance.Intn(len(l))
			switch chance.Intn(4) {
			case 0:
				l[at] = spoil(chance, l[at])
			case 1:
				l = append(l, spoil(chance, l[at]))
			case 2:
				l = append(l, anyRow(chance))
			case 3:
				l = slices.Delete(l, at, at+1)
			}
		}
		want := model(l).check()
		told[want]++
		checks(t, "by chance", l, want)
		if t.Failed() {
			t.Fatalf("seed %d: %s", seed, tell(l))
		}
	}
	for _, e := range []api.Errno{api.OK, api.ErrRow, api.ErrClash, api.ErrOwner, api.ErrAcl} {
		if told[e] < 50 {
			t.Errorf("%d was told %d times", e, told[e])
		}
	}
}
