package class_test

import (
	"cmp"
	"math"
	"math/rand"
	"slices"
	"testing"

	"skein/api"
	"skein/class"
	"skein/match"
)

func term(f int, value, mask uint64) api.Term {
	return api.Term{Field: f, Value: value, Mask: mask}
}

func rule(priority, id int, l ...api.Term) api.Rule {
	return api.Rule{Priority: priority, Terms: l, Id: id}
}

func toOne() api.Term   { return term(api.IpDst, 1, 1<<32-1) }
func portWeb() api.Term { return term(api.TpDst, 80, 65535) }

func tcpState() api.State {
	return api.State{P: api.Packet{
		Eth:  api.Eth{Type: api.TypeIp},
		IsIp: true,
		Ip:   api.Ip{Dst: 1, Proto: api.ProtoTcp},
		L4:   api.L4{Kind: api.KindTcp, Dport: 80},
	}}
}

func udpState() api.State {
	s := tcpState()
	s.P.Ip.Proto, s.P.L4 = api.ProtoUdp, api.L4{Kind: api.KindUdp, Dport: 53}
	return s
}

func arpState() api.State {
	return api.State{P: api.Packet{Eth: api.Eth{Type: api.TypeArp}, IsArp: true}}
}

// filled is a Class of those rules.
func filled(t *testing.T, l ...api.Rule) *class.Class {
	t.Helper()
	c := class.New()
	for _, r := range l {
		if e := c.Add(r); e != api.OK {
			t.Fatalf("Add of %#v: %d", r, e)
		}
	}
	return c
}

func same(a, b api.Rule) bool {
	return a.Priority == b.Priority && a.Id == b.Id && slices.Equal(a.Terms, b.Terms)
}

// finds asks which rule a State finds; 0 stands for none.
func finds(t *testing.T, what string, c *class.Class, s api.State, id int) {
	t.Helper()
	r, ok := c.Find(s)
	if r.Id != id || ok != (id != 0) || !ok && !same(r, api.Rule{}) {
		t.Errorf("%s: %#v, %v, not %d", what, r, ok, id)
	}
}

// has asks that the rules are those, in that order, and of so many tuples.
func has(t *testing.T, what string, c *class.Class, tuples int, want ...api.Rule) {
	t.Helper()
	if l := slices.Collect(c.All()); !slices.EqualFunc(l, want, same) {
		t.Errorf("%s: %#v", what, l)
	}
	if c.Len() != len(want) || c.Tuples() != tuples {
		t.Errorf("%s: %d rules of %d tuples", what, c.Len(), c.Tuples())
	}
}

// P10.1, P10.2: a new one.
func TestNew(t *testing.T) {
	c := class.New()
	has(t, "new", c, 0)
	finds(t, "new", c, tcpState(), 0)
	if l := c.Shadowed(); len(l) != 0 {
		t.Errorf("%v", l)
	}
	if e := c.Remove(1); e != api.ErrNone {
		t.Errorf("%d", e)
	}
	d := class.New()
	if d.Add(rule(1, 1)) != api.OK || c.Len() != 0 {
		t.Errorf("two new ones are one")
	}
}

// P10.2: the document's example.
func TestExample(t *testing.T) {
	one, two, three := rule(10, 1, toOne()), rule(10, 2), rule(20, 3, portWeb())
	c := filled(t, one, two, three)
	finds(t, "TCP to 1, port 80", c, tcpState(), 3)
	finds(t, "UDP to 1", c, udpState(), 1)
	finds(t, "ARP", c, arpState(), 2)
	has(t, "the example", c, 3, three, one, two)
	if r, _ := c.Find(tcpState()); !same(r, three) {
		t.Errorf("%#v", r)
	}
}

// P10.1: the edges of what may be.
func TestAddTakes(t *testing.T) {
	l := []api.Rule{
		rule(65535, math.MaxInt, toOne()), rule(65535-1, 2), rule(1, 3, term(api.EthDst, 0, 1)),
		rule(0, 1), rule(0, 65537, term(api.Reg3, 1<<31, 1<<31)),
	}
	has(t, "edges", filled(t, l[4], l[3], l[2], l[1], l[0]), 4, l...)
}

// P10.1, R2: which error is told first, and that nothing changes.
func TestAddRefuses(t *testing.T) {
	wrong := term(api.IpDst, 2, 1)
	there := rule(5, 7, toOne())
	c := filled(t, there)
	for _, x := range []struct {
		r    api.Rule
		want api.Errno
	}{
		{rule(-1, 1), api.ErrArg}, {rule(65536, 1), api.ErrArg}, {rule(math.MinInt, 1), api.ErrArg}, {rule(math.MaxInt, 1), api.ErrArg},
		{rule(1, 0), api.ErrArg}, {rule(1, -1), api.ErrArg}, {rule(1, math.MinInt), api.ErrArg}, {rule(-1, 0, wrong), api.ErrArg},
		{rule(-1, 7), api.ErrArg}, {rule(65536, 7, wrong), api.ErrArg},
		{rule(1, 1, wrong), api.ErrMatch}, {rule(1, 7, wrong), api.ErrMatch}, {rule(1, 1, term(0, 1, 1)), api.ErrMatch},
		{rule(1, 1, term(29, 1, 1)), api.ErrMatch}, {rule(1, 1, term(-5, 1, 1)), api.ErrMatch}, {rule(1, 1, term(api.IpDst, 0, 0)), api.ErrMatch},
		{rule(1, 1, toOne(), toOne()), api.ErrMatch}, {rule(1, 1, portWeb(), toOne()), api.ErrMatch}, {rule(1, 1, term(api.IpTtl, 0, 256)), api.ErrMatch},
		{there, api.ErrTwice}, {rule(9, 7), api.ErrTwice}, {rule(0, 7, portWeb()), api.ErrTwice},
	} {
		if e := c.Add(x.r); e != x.want {
			t.Errorf("%#v: %d, not %d", x.r, e, x.want)
		}
		has(t, "behind what was refused", c, 1, there)
	}
	finds(t, "behind all that was refused", c, tcpState(), 7)
	finds(t, "behind all that was refused", c, arpState(), 0)
}

// P10.1
func TestRemove(t *testing.T) {
	one, two, three := rule(10, 1, toOne()), rule(10, 2, toOne()), rule(20, 3, portWeb())
	c := filled(t, one, two, three)
	for _, id := range []int{0, -1, 4, math.MinInt, math.MaxInt} {
		if e := c.Remove(id); e != api.ErrNone {
			t.Errorf("%d: %d", id, e)
		}
	}
	has(t, "none removed", c, 2, three, one, two)
	for _, x := range []struct{ id, tuples, found int }{{3, 1, 1}, {1, 1, 2}, {2, 0, 0}} {
		if e := c.Remove(x.id); e != api.OK {
			t.Errorf("%d: %d", x.id, e)
		}
		if e := c.Remove(x.id); e != api.ErrNone {
			t.Errorf("%d once more: %d", x.id, e)
		}
		if c.Tuples() != x.tuples {
			t.Errorf("without %d: %d tuples", x.id, c.Tuples())
		}
		finds(t, "one less", c, tcpState(), x.found)
	}
	has(t, "all removed", c, 0)
	if e := c.Add(rule(1, 3)); e != api.OK {
		t.Errorf("an Id that was removed: %d", e)
	}
}

// P10.1: MaxRules rules, and one more.
func TestFull(t *testing.T) {
	c := class.New()
	for i := range api.MaxRules {
		l := []api.Term{term(api.Reg0, uint64(i%256), 255)}
		if e := c.Add(rule(i, i+1, l[:i%2]...)); e != api.OK {
			t.Fatalf("%d: %d", i, e)
		}
	}
	if c.Len() != 65536 || c.Tuples() != 2 {
		t.Errorf("%d rules of %d tuples", c.Len(), c.Tuples())
	}
	for _, x := range []struct {
		r    api.Rule
		want api.Errno
	}{
		{rule(0, 65537), api.ErrFull}, {rule(0, math.MaxInt, toOne()), api.ErrFull},
		{rule(0, 65536), api.ErrTwice}, {rule(0, 65537, term(0, 0, 0)), api.ErrMatch}, {rule(0, 0), api.ErrArg},
	} {
		if e := c.Add(x.r); e != x.want || c.Len() != 65536 {
			t.Errorf("%#v: %d, not %d", x.r, e, x.want)
		}
	}
	s := arpState()
	s.Regs[0] = 0xffffffff
	finds(t, "a full one", c, s, 65536)
	if l := c.Shadowed(); len(l) != 65534 || l[0] != 1 || l[65533] != 65534 {
		t.Errorf("%d shadowed", len(l))
	}
	if c.Remove(65536) != api.OK || c.Add(rule(0, 65536)) != api.OK || c.Add(rule(0, 65537)) != api.ErrFull {
		t.Errorf("one removed, one added")
	}
	finds(t, "another one in its place", c, s, 65535)
}

// P10.2: the greater Priority first, then the less Id.
func TestOrder(t *testing.T) {
	l := []api.Rule{rule(65535, 9), rule(20, 2), rule(20, 10), rule(20, 300), rule(3, 1), rule(0, 4), rule(0, 5)}
	r := rand.New(rand.NewSource(1))
	for range 50 {
		mixed := slices.Clone(l)
		r.Shuffle(len(l), func(i, j int) { mixed[i], mixed[j] = mixed[j], mixed[i] })
		c := filled(t, mixed...)
		has(t, "mixed", c, 1, l...)
		for i, x := range l {
			finds(t, "mixed", c, arpState(), x.Id)
			if c.Remove(x.Id) != api.OK {
				t.Errorf("%d", x.Id)
			}
			has(t, "one by one", c, min(1, len(l)-i-1), l[i+1:]...)
		}
		finds(t, "none is left", c, arpState(), 0)
	}
}

// P10.2: one Priority, rules of unlike tuples: the less Id first.
func TestOrderOfTuples(t *testing.T) {
	s := tcpState()
	for first := range 3 {
		c := class.New()
		for i, l := range [][]api.Term{{toOne()}, {portWeb()}, {}} {
			if e := c.Add(rule(7, 1+(i+first)%3, l...)); e != api.OK {
				t.Fatal(e)
			}
		}
		finds(t, "one Priority", c, s, 1)
	}
}

// P10.2: unlike tuples are those with another field or another mask, whatever their values are.
func TestTuples(t *testing.T) {
	c := class.New()
	for i, x := range []struct {
		l    []api.Term
		want int
	}{
		{[]api.Term{toOne()}, 1}, {[]api.Term{term(api.IpDst, 2, 1<<32-1)}, 1}, {[]api.Term{term(api.IpDst, 0, 1<<32-1)}, 1},
		{[]api.Term{term(api.IpDst, 0, 1<<32-2)}, 2}, {[]api.Term{term(api.IpSrc, 1, 1<<32-1)}, 3}, {nil, 4}, {[]api.Term{}, 4},
		{[]api.Term{toOne(), portWeb()}, 5}, {[]api.Term{portWeb()}, 6}, {[]api.Term{toOne(), term(api.TpDst, 80, 65534)}, 7},
		{[]api.Term{term(api.EthDst, 1, 1)}, 8}, {[]api.Term{term(api.EthDst, 0, 1)}, 8}, {[]api.Term{term(api.EthDst, 0, 17)}, 9},
	} {
		if e := c.Add(rule(i, i+1, x.l...)); e != api.OK || c.Tuples() != x.want {
			t.Errorf("%d: %d, %d tuples", i, e, c.Tuples())
		}
	}
}

// P10.2: terms of fields that a State has not, or that say other values.
func TestFindByFields(t *testing.T) {
	c := filled(t,
		rule(9, 1, term(api.ArpOp, 0, 65535)),
		rule(8, 2, term(api.TcpFlags, 0, 1)),
		rule(7, 3, toOne(), term(api.TpDst, 53, 65535)),
		rule(6, 4, term(api.EthType, 0x0800, 0xff00), term(api.Reg2, 5, 7)),
		rule(5, 5, term(api.VlanTag, 65536, 65536)))
	finds(t, "ARP's", c, arpState(), 1)
	finds(t, "TCP's", c, tcpState(), 2)
	finds(t, "UDP's", c, udpState(), 3)
	s := udpState()
	s.P.L4.Dport = 54
	finds(t, "another port", c, s, 0)
	s.Regs[2] = 0xf5
	finds(t, "a register", c, s, 4)
	s.Regs[2], s.P.Eth.Tagged = 0xf6, true
	finds(t, "a tag", c, s, 5)
	s.P.Eth.Tagged = false
	finds(t, "nothing", c, s, 0)
}

// P10.3
func TestShadowed(t *testing.T) {
	net := func(mask uint64) api.Term { return term(api.IpDst, 0x0a000000, mask) }
	for _, x := range []struct {
		what string
		l    []api.Rule
		want []int
	}{
		{"none", nil, nil},
		{"one alone", []api.Rule{rule(1, 1)}, nil},
		{"a wider one ahead", []api.Rule{rule(2, 1, net(0xff000000)), rule(1, 2, net(0xffff0000))}, []int{2}},
		{"a wider one behind", []api.Rule{rule(1, 1, net(0xff000000)), rule(2, 2, net(0xffff0000))}, nil},
		{"the same terms", []api.Rule{rule(2, 4, toOne()), rule(1, 3, toOne())}, []int{3}},
		{"the same terms and Priority", []api.Rule{rule(2, 4, toOne()), rule(2, 3, toOne())}, []int{4}},
		{"one Priority, the wider one has the less Id", []api.Rule{rule(2, 1), rule(2, 2, toOne())}, []int{2}},
		{"one Priority, the wider one has the greater Id", []api.Rule{rule(2, 2), rule(2, 1, toOne())}, nil},
		{"other values", []api.Rule{rule(2, 1, toOne()), rule(1, 2, term(api.IpDst, 3, 1<<32-1))}, nil},
		{"another field", []api.Rule{rule(2, 1, toOne()), rule(1, 2, term(api.IpSrc, 1, 1<<32-1))}, nil},
		{"a field more", []api.Rule{rule(2, 1, toOne()), rule(1, 2, toOne(), portWeb())}, []int{2}},
		{"a field less", []api.Rule{rule(2, 1, toOne(), portWeb()), rule(1, 2, toOne())}, nil},
		{"masks that lie across", []api.Rule{rule(2, 1, term(api.Reg0, 1, 3)), rule(1, 2, term(api.Reg0, 1, 5))}, nil},
		{"by all that follow from none", []api.Rule{rule(9, 5), rule(8, 9, toOne()), rule(7, 2), rule(6, 30, portWeb())}, []int{2, 9, 30}},
		{"by one that is shadowed itself", []api.Rule{rule(3, 3, net(0xff000000)), rule(2, 2, net(0xffff0000)), rule(1, 1, net(0xffffff00))}, []int{1, 2}},
		{"by two together is not shadowed", []api.Rule{rule(2, 1, term(api.Reg0, 0, 1)), rule(2, 2, term(api.Reg0, 1, 1)), rule(1, 3)}, nil},
		{"what no packet has is not shadowed", []api.Rule{rule(1, 1, term(api.ArpOp, 1, 1), term(api.IpTtl, 1, 1))}, nil},
		{"needs play no part", []api.Rule{rule(2, 1, term(api.EthType, 0x0800, 0xffff)), rule(1, 2, toOne())}, nil},
	} {
		if l := filled(t, x.l...).Shadowed(); !slices.Equal(l, x.want) {
			t.Errorf("%s: %v", x.what, l)
		}
	}
	c := filled(t, rule(2, 1), rule(1, 2, toOne()))
	if c.Remove(1) != api.OK || len(c.Shadowed()) != 0 {
		t.Errorf("the one ahead is gone: %v", c.Shadowed())
	}
}

// P10.3: of a nil Class, and of one that New did not make.
func TestClosed(t *testing.T) {
	for _, c := range []*class.Class{nil, new(class.Class)} {
		if c.Add(rule(1, 1)) != api.ErrClosed || c.Add(rule(-1, 0)) != api.ErrClosed {
			t.Errorf("Add")
		}
		if c.Remove(1) != api.ErrClosed || c.Remove(0) != api.ErrClosed {
			t.Errorf("Remove")
		}
		has(t, "closed", c, 0)
		finds(t, "closed", c, tcpState(), 0)
		if l := c.Shadowed(); len(l) != 0 {
			t.Errorf("%v", l)
		}
	}
}

// R5: a range that is stopped, one begun anew, and rules that come and go meanwhile.
func TestAllIsRangedOver(t *testing.T) {
	one, two, three := rule(3, 1), rule(2, 2, toOne()), rule(1, 3, portWeb())
	c := filled(t, three, one)
	all := c.All()
	if e := c.Add(two); e != api.OK {
		t.Fatal(e)
	}
	for want := range 4 {
		seen := 0
		for range all {
			if seen == want {
				break
			}
			seen++
		}
		if seen != min(want, 3) {
			t.Errorf("%d, not %d", seen, want)
		}
	}
	if l := slices.Collect(all); !slices.EqualFunc(l, []api.Rule{one, two, three}, same) {
		t.Errorf("anew: %#v", l)
	}
	var met []int
	for r := range all {
		met = append(met, r.Id)
		for inner := range all { // one within the other
			if inner.Id < r.Id {
				t.Errorf("%d is there still", inner.Id)
			}
		}
		c.Remove(r.Id)
		c.Remove(three.Id)
		c.Add(rule(0, 4))
		c.Add(three)
	}
	if !slices.Equal(met, []int{1, 2, 3}) {
		t.Errorf("%v", met)
	}
	has(t, "behind it", c, 2, three, rule(0, 4))
}

// R3: rules are copies, those that are taken in and those that are answered.
func TestRulesAreCopies(t *testing.T) {
	long := []api.Term{toOne(), portWeb(), term(api.Reg0, 9, 15)}
	c := filled(t, rule(1, 1, long[:2]...), rule(1, 2, toOne()))
	if !slices.Equal(long, []api.Term{toOne(), portWeb(), term(api.Reg0, 9, 15)}) {
		t.Errorf("%#v", long)
	}
	clear(long)
	right := func(what string) {
		t.Helper()
		has(t, what, c, 2, rule(1, 1, toOne(), portWeb()), rule(1, 2, toOne()))
		if r, ok := c.Find(tcpState()); !same(r, rule(1, 1, toOne(), portWeb())) || !ok {
			t.Errorf("%s: %#v, %v", what, r, ok)
		}
		finds(t, what, c, udpState(), 2)
	}
	right("what came in has changed")
	spoil := func(r api.Rule) { clear(r.Terms[:cap(r.Terms)]) }
	r, _ := c.Find(tcpState())
	other, _ := c.Find(tcpState())
	spoil(r)
	if !same(other, rule(1, 1, toOne(), portWeb())) {
		t.Errorf("%#v", other)
	}
	right("what was found has changed")
	for r := range c.All() {
		spoil(r)
	}
	right("what was gone over has changed")
	if c.Remove(1) != api.OK || c.Remove(2) != api.OK {
		t.Errorf("Remove")
	}
	has(t, "all removed", c, 0)
}

// model is rules in their order, without any tuples.
type model []api.Rule

func (m model) ordered() model {
	return slices.SortedFunc(slices.Values(m), func(a, b api.Rule) int {
		return cmp.Or(b.Priority-a.Priority, a.Id-b.Id)
	})
}

func (m model) find(s api.State) int {
	for _, r := range m.ordered() {
		if match.Satisfies(s, r.Terms) {
			return r.Id
		}
	}
	return 0
}

func (m model) shadowed() []int {
	var ids []int
	l := m.ordered()
	for i, r := range l {
		if slices.ContainsFunc(l[:i], func(ahead api.Rule) bool { return match.Implies(r.Terms, ahead.Terms) }) {
			ids = append(ids, r.Id)
		}
	}
	slices.Sort(ids)
	return ids
}

func (m model) tuples() int {
	seen := map[string]bool{}
	for _, r := range m {
		l := slices.Clone(r.Terms)
		for i := range l {
			l[i].Value = 0
		}
		seen[match.Text(l)] = true
	}
	return len(seen)
}

// randomTerms is terms of few fields and bits, such that States satisfy them, and rules are shadowed, now and then.
func randomTerms(r *rand.Rand) []api.Term {
	var l []api.Term
	for _, f := range []int{api.EthType, api.ArpOp, api.IpDst, api.TpDst, api.Reg0, api.Reg3} {
		if r.Intn(3) == 0 {
			mask := 1 + r.Uint64()%7
			l = append(l, term(f, r.Uint64()&mask, mask))
		}
	}
	return l
}

func randomState(r *rand.Rand) api.State {
	s := []api.State{tcpState(), udpState(), arpState(), {}}[r.Intn(4)]
	s.P.Ip.Dst, s.P.L4.Dport, s.P.Arp.Op = r.Uint32()%8, r.Intn(8), r.Intn(8)
	s.P.Eth.Type, s.Regs[0], s.Regs[3] = r.Intn(8), r.Uint32()%8, r.Uint32()
	return s
}

// agrees asks that a Class answers as its model does.
func agrees(t *testing.T, r *rand.Rand, c *class.Class, m model) {
	t.Helper()
	has(t, "model", c, m.tuples(), m.ordered()...)
	if l := c.Shadowed(); !slices.Equal(l, m.shadowed()) {
		t.Fatalf("shadowed: %v, not %v", l, m.shadowed())
	}
	for range 20 {
		s := randomState(r)
		finds(t, "model", c, s, m.find(s))
	}
}

// P10.1 to P10.4: whatever comes and goes.
func TestModel(t *testing.T) {
	r := rand.New(rand.NewSource(2))
	for range 40 {
		c := class.New()
		var m model
		for range 120 {
			id := 1 + r.Intn(60)
			at := slices.IndexFunc(m, func(x api.Rule) bool { return x.Id == id })
			if r.Intn(3) == 0 {
				want := api.ErrNone
				if at >= 0 {
					m, want = slices.Delete(m, at, at+1), api.OK
				}
				if e := c.Remove(id); e != want {
					t.Fatalf("Remove: %d, not %d", e, want)
				}
				continue
			}
			x, want := rule(r.Intn(6), id, randomTerms(r)...), api.ErrTwice
			if at < 0 {
				m, want = append(m, x), api.OK
			}
			if e := c.Add(x); e != want {
				t.Fatalf("Add: %d, not %d", e, want)
			}
			if r.Intn(10) == 0 {
				agrees(t, r, c, m)
			}
		}
		agrees(t, r, c, m)
	}
}

// P10.4: the order in which rules came plays no part; without the shadowed ones the same is found; what was
// added and removed again never was.
func TestWhatFollows(t *testing.T) {
	r := rand.New(rand.NewSource(3))
	for range 60 {
		var l, gone []api.Rule
		for id := 1; id <= 40; id++ {
			l = append(l, rule(r.Intn(5), id, randomTerms(r)...))
			gone = append(gone, rule(r.Intn(5), 100+id, randomTerms(r)...))
		}
		c := filled(t, l...)
		mixed := slices.Clone(append(slices.Clone(l), gone...))
		r.Shuffle(len(mixed), func(i, j int) { mixed[i], mixed[j] = mixed[j], mixed[i] })
		d := filled(t, mixed...)
		for _, x := range gone {
			if e := d.Remove(x.Id); e != api.OK {
				t.Fatal(e)
			}
		}
		has(t, "added and removed", d, c.Tuples(), slices.Collect(c.All())...)
		bare := filled(t, l...)
		for _, id := range c.Shadowed() {
			bare.Remove(id)
		}
		if len(c.Shadowed()) == 0 || len(bare.Shadowed()) != 0 {
			t.Errorf("%v, then %v", c.Shadowed(), bare.Shadowed())
		}
		for range 200 {
			s := randomState(r)
			want, ok := c.Find(s)
			for _, other := range []*class.Class{d, bare} {
				if x, found := other.Find(s); !same(x, want) || found != ok {
					t.Fatalf("%#v, not %#v", x, want)
				}
			}
		}
	}
}
