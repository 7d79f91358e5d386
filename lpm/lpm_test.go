package lpm_test

import (
	"cmp"
	"math"
	"math/rand"
	"slices"
	"testing"

	"skein/api"
	"skein/lpm"
)

// addr is an address of four numbers.
func addr(a, b, c, d uint32) uint32 {
	return a<<24 | b<<16 | c<<8 | d
}

func route(prefix uint32, plen, value int) api.Route {
	return api.Route{Prefix: prefix, Plen: plen, Value: value}
}

// filled is a Table of those prefixes.
func filled(t *testing.T, l ...api.Route) *lpm.Table {
	t.Helper()
	x := lpm.New()
	for _, r := range l {
		adds(t, x, r)
	}
	return x
}

func adds(t *testing.T, x *lpm.Table, r api.Route) {
	t.Helper()
	if e := x.Add(r.Prefix, r.Plen, r.Value); e != api.OK {
		t.Fatalf("Add of %v: %d", r, e)
	}
}

func removes(t *testing.T, x *lpm.Table, r api.Route) {
	t.Helper()
	if e := x.Remove(r.Prefix, r.Plen); e != api.OK {
		t.Fatalf("Remove of %v: %d", r, e)
	}
}

// finds asks which prefix an address finds; one with Plen -1 stands for none.
func finds(t *testing.T, x *lpm.Table, ip uint32, want api.Route) {
	t.Helper()
	ok := want.Plen >= 0
	if !ok {
		want = api.Route{}
	}
	if r, found := x.Find(ip); r != want || found != ok {
		t.Errorf("Find(%#x): %v, %v, not %v", ip, r, found, want)
	}
}

func none() api.Route {
	return api.Route{Plen: -1}
}

// has asks that the prefixes are those, in that order.
func has(t *testing.T, what string, x *lpm.Table, want ...api.Route) {
	t.Helper()
	if l := slices.Collect(x.All()); !slices.Equal(l, want) {
		t.Errorf("%s: %v, not %v", what, l, want)
	}
	if x.Len() != len(want) {
		t.Errorf("%s: Len is %d, not %d", what, x.Len(), len(want))
	}
	for _, r := range want {
		if v, ok := x.Get(r.Prefix, r.Plen); v != r.Value || !ok {
			t.Errorf("%s: Get of %v: %d, %v", what, r, v, ok)
		}
	}
}

// lacks asks that a prefix is not there.
func lacks(t *testing.T, x *lpm.Table, prefix uint32, plen int) {
	t.Helper()
	if v, ok := x.Get(prefix, plen); v != 0 || ok {
		t.Errorf("Get of %#x/%d: %d, %v", prefix, plen, v, ok)
	}
}

// P17.1, P17.2: a new one.
func TestNew(t *testing.T) {
	x, y := lpm.New(), lpm.New()
	has(t, "new", x)
	finds(t, x, 0, none())
	finds(t, x, math.MaxUint32, none())
	lacks(t, x, 0, 0)
	if e := x.Remove(0, 0); e != api.ErrNone {
		t.Errorf("Remove: %d", e)
	}
	adds(t, x, route(0, 0, 1))
	has(t, "another new one", y)
}

// P17.2: the document's example.
func TestExample(t *testing.T) {
	one, two, three := route(addr(10, 0, 0, 0), 8, 1), route(addr(10, 1, 0, 0), 16, 2), route(0, 0, 3)
	x := filled(t, one, two, three)
	finds(t, x, addr(10, 1, 2, 3), two)
	finds(t, x, addr(10, 9, 9, 9), one)
	finds(t, x, addr(1, 1, 1, 1), three)
	has(t, "example", x, three, one, two)
}

// P17.2: Mask, of each Plen and of what is none.
func TestMask(t *testing.T) {
	for plen, want := range map[int]uint32{
		math.MinInt: 0, -33: 0, -32: 0, -1: 0, 0: 0, 1: 1 << 31, 2: 3 << 30, 8: 0xff000000, 24: 0xffffff00, 31: 0xfffffffe,
		32: 0xffffffff, 33: 0xffffffff, 64: 0xffffffff, 1 << 32: 0xffffffff, math.MaxInt: 0xffffffff,
	} {
		if got := lpm.Mask(plen); got != want {
			t.Errorf("Mask(%d): %#x, not %#x", plen, got, want)
		}
	}
	for plen := range 32 {
		if lpm.Mask(plen+1) != lpm.Mask(plen)|1<<(31-plen) {
			t.Errorf("Mask(%d)", plen+1)
		}
	}
}

// P17.1: what is a prefix, and what is none.
func TestArg(t *testing.T) {
	for _, c := range []struct {
		prefix uint32
		plen   int
		ok     bool
	}{
		{0, -1, false}, {0, 0, true}, {0, 1, true}, {0, 31, true}, {0, 32, true}, {0, 33, false},
		{0, math.MinInt, false}, {0, math.MaxInt, false}, {0, 1 << 32, false}, {0, 64, false}, {0, -32, false},
		{1 << 31, 0, false}, {1 << 31, 1, true}, {1 << 30, 1, false}, {1 << 30, 2, true}, {3 << 30, 1, false},
		{1, 0, false}, {1, 8, false}, {1, 31, false}, {1, 32, true}, {2, 31, true}, {2, 30, false},
		{math.MaxUint32, 31, false}, {math.MaxUint32, 32, true}, {math.MaxUint32, 33, false}, {math.MaxUint32, -1, false},
		{addr(10, 0, 0, 0), 7, true}, {addr(10, 0, 0, 0), 6, false}, {addr(10, 0, 0, 1), 8, false},
	} {
		for _, x := range []*lpm.Table{lpm.New(), filled(t, route(0, 0, 5), route(addr(128, 0, 0, 0), 2, 6), route(3, 32, 7))} {
			argIsHeldAgainst(t, x, c.prefix, c.plen, c.ok)
		}
	}
}

// argIsHeldAgainst asks what calls tell of a prefix, which is one or none.
func argIsHeldAgainst(t *testing.T, x *lpm.Table, prefix uint32, plen int, ok bool) {
	t.Helper()
	ahead := slices.Collect(x.All())
	there := slices.ContainsFunc(ahead, func(r api.Route) bool { return r.Prefix == prefix && r.Plen == plen })
	added, removed := api.OK, api.OK
	switch {
	case !ok:
		added, removed = api.ErrArg, api.ErrArg
	case there:
		added = api.ErrTwice
	}
	if e := x.Add(prefix, plen, 9); e != added {
		t.Errorf("Add of %#x/%d: %d, not %d", prefix, plen, e, added)
	}
	if _, is := x.Get(prefix, plen); is != ok {
		t.Errorf("Get of %#x/%d: %v", prefix, plen, is)
	}
	if e := x.Remove(prefix, plen); e != removed {
		t.Errorf("Remove of %#x/%d: %d, not %d", prefix, plen, e, removed)
	}
	lacks(t, x, prefix, plen)
	if !there {
		has(t, "behind them", x, ahead...)
	}
}

// P17.1: one that is there twice stays what it was; one that is not there can't be removed.
func TestTwiceAndNone(t *testing.T) {
	net, within := route(addr(10, 0, 0, 0), 8, 1), route(addr(10, 0, 0, 0), 16, -2)
	x := filled(t, net)
	for _, value := range []int{1, 2, 0, -1} {
		if e := x.Add(net.Prefix, net.Plen, value); e != api.ErrTwice {
			t.Errorf("Add: %d", e)
		}
	}
	has(t, "twice", x, net)
	for _, r := range []api.Route{route(addr(10, 0, 0, 0), 7, 0), route(addr(10, 0, 0, 0), 9, 0), within, route(0, 0, 0), route(addr(11, 0, 0, 0), 8, 0), route(addr(10, 0, 0, 0), 32, 0)} {
		if e := x.Remove(r.Prefix, r.Plen); e != api.ErrNone {
			t.Errorf("Remove of %v: %d", r, e)
		}
		lacks(t, x, r.Prefix, r.Plen)
	}
	has(t, "none", x, net)
	adds(t, x, within)
	removes(t, x, net)
	has(t, "removed", x, within)
	if e := x.Remove(net.Prefix, net.Plen); e != api.ErrNone {
		t.Errorf("Remove again: %d", e)
	}
	if e := x.Add(within.Prefix, within.Plen, 3); e != api.ErrTwice {
		t.Errorf("Add of what stayed: %d", e)
	}
	net.Value = 77
	adds(t, x, net)
	has(t, "anew", x, net, within)
}

// P17.1: a place at which ways part is no prefix that is there, till it is added.
func TestFork(t *testing.T) {
	left, right, fork := route(addr(10, 0, 0, 0), 9, 1), route(addr(10, 128, 0, 0), 9, 2), route(addr(10, 0, 0, 0), 8, 3)
	x := filled(t, left, right)
	lacks(t, x, fork.Prefix, fork.Plen)
	if e := x.Remove(fork.Prefix, fork.Plen); e != api.ErrNone {
		t.Errorf("Remove: %d", e)
	}
	has(t, "without it", x, left, right)
	adds(t, x, fork)
	has(t, "with it", x, fork, left, right)
	removes(t, x, fork)
	has(t, "without it again", x, left, right)
	finds(t, x, addr(10, 1, 1, 1), left)
	finds(t, x, addr(10, 200, 1, 1), right)
	finds(t, x, addr(11, 200, 1, 1), none())
}

// P17.2: one prefix within another, three deep; what none has.
func TestWithin(t *testing.T) {
	a, b, c := route(addr(10, 0, 0, 0), 8, 1), route(addr(10, 64, 0, 0), 10, 2), route(addr(10, 64, 3, 0), 24, 3)
	apart := route(addr(192, 168, 0, 1), 32, 4)
	x := filled(t, c, a, apart, b)
	for _, q := range []struct {
		ip   uint32
		want api.Route
	}{
		{addr(10, 0, 0, 0), a}, {addr(10, 63, 255, 255), a}, {addr(10, 64, 0, 0), b}, {addr(10, 64, 2, 255), b}, {addr(10, 64, 3, 0), c},
		{addr(10, 64, 3, 255), c}, {addr(10, 64, 4, 0), b}, {addr(10, 127, 255, 255), b}, {addr(10, 128, 0, 0), a}, {addr(10, 255, 255, 255), a},
		{addr(9, 255, 255, 255), none()}, {addr(11, 0, 0, 0), none()}, {0, none()}, {math.MaxUint32, none()},
		{addr(192, 168, 0, 1), apart}, {addr(192, 168, 0, 0), none()}, {addr(192, 168, 0, 2), none()},
	} {
		finds(t, x, q.ip, q.want)
	}
	has(t, "three deep", x, a, b, c, apart)
	removes(t, x, b)
	finds(t, x, addr(10, 64, 2, 255), a)
	finds(t, x, addr(10, 64, 3, 7), c)
	removes(t, x, a)
	finds(t, x, addr(10, 64, 2, 255), none())
	finds(t, x, addr(10, 64, 3, 7), c)
	has(t, "what stays", x, c, apart)
}

// P17.2: 0.0.0.0/0 alone has all addresses.
func TestDefault(t *testing.T) {
	x := filled(t, route(0, 0, -5))
	for _, ip := range []uint32{0, 1, 1 << 31, math.MaxUint32, addr(10, 1, 2, 3)} {
		finds(t, x, ip, route(0, 0, -5))
	}
	has(t, "alone", x, route(0, 0, -5))
	removes(t, x, route(0, 0, 0))
	finds(t, x, 0, none())
	has(t, "gone", x)
}

// P17.2, P17.4: all Plens of one address, added in both orders, removed from both ends.
func TestAllPlens(t *testing.T) {
	for _, ip := range []uint32{0, math.MaxUint32, 0xaaaaaaaa, 0x55555555, addr(10, 0, 0, 1)} {
		var l []api.Route
		for plen := range 33 {
			l = append(l, route(ip&lpm.Mask(plen), plen, 100+plen))
		}
		sorted := slices.Clone(l)
		slices.SortFunc(sorted, inOrder)
		up := filled(t, l...)
		slices.Reverse(l)
		down := filled(t, l...)
		slices.Reverse(l)
		has(t, "rising", up, sorted...)
		has(t, "falling", down, sorted...)
		for plen := 32; plen >= 0; plen-- {
			finds(t, up, ip, l[plen])
			finds(t, down, ip, l[32])
			removes(t, up, l[plen])
			removes(t, down, l[32-plen])
			lacks(t, up, l[plen].Prefix, plen)
			if plen > 0 {
				finds(t, up, ip^1<<(32-plen), l[plen-1])
			}
		}
		has(t, "all removed", up)
		has(t, "all removed, too", down)
	}
}

// inOrder is the order that the document has: by addresses, then by Plens.
func inOrder(a, b api.Route) int {
	return cmp.Or(cmp.Compare(a.Prefix, b.Prefix), cmp.Compare(a.Plen, b.Plen))
}

// P17.2, R5: All in its order, stopped, begun anew, while what it goes over changes.
func TestAll(t *testing.T) {
	l := []api.Route{route(0, 0, 1), route(0, 32, 2), route(addr(10, 0, 0, 0), 8, 3), route(addr(10, 0, 0, 0), 9, 4), route(addr(10, 0, 0, 7), 32, 5), route(1<<31, 1, 6), route(math.MaxUint32, 32, 7)}
	x := filled(t, l[5], l[2], l[6], l[0], l[4], l[3], l[1])
	has(t, "in order", x, l...)
	all := x.All()
	for n := range len(l) + 1 {
		var got []api.Route
		for r := range all {
			if len(got) == n {
				break
			}
			got = append(got, r)
		}
		if !slices.Equal(got, l[:n]) {
			t.Errorf("stopped behind %d: %v", n, got)
		}
	}
	var got []api.Route
	for r := range all {
		got = append(got, r)
		removes(t, x, r)
		adds(t, x, route(r.Prefix&lpm.Mask(3)|3<<28, 5+len(got), 0))
	}
	if !slices.Equal(got, l) {
		t.Errorf("while it changes: %v", got)
	}
	want := slices.Collect(x.All())
	if got := slices.Collect(all); len(got) != len(l) || !slices.Equal(got, want) || slices.Equal(got, l) {
		t.Errorf("begun anew behind changes: %v", got)
	}
}

// P17.2: Len behind Add, Remove and refused calls.
func TestLen(t *testing.T) {
	x := lpm.New()
	steps := []struct {
		do  func() api.Errno
		e   api.Errno
		len int
	}{
		{func() api.Errno { return x.Remove(0, 0) }, api.ErrNone, 0},
		{func() api.Errno { return x.Add(0, 0, 1) }, api.OK, 1},
		{func() api.Errno { return x.Add(0, 0, 2) }, api.ErrTwice, 1},
		{func() api.Errno { return x.Add(0, 33, 2) }, api.ErrArg, 1},
		{func() api.Errno { return x.Add(0, -1, 2) }, api.ErrArg, 1},
		{func() api.Errno { return x.Add(1, 31, 2) }, api.ErrArg, 1},
		{func() api.Errno { return x.Add(0, 32, 2) }, api.OK, 2},
		{func() api.Errno { return x.Add(1, 32, 2) }, api.OK, 3},
		{func() api.Errno { return x.Remove(0, 31) }, api.ErrNone, 3},
		{func() api.Errno { return x.Remove(1, 31) }, api.ErrArg, 3},
		{func() api.Errno { return x.Remove(0, 33) }, api.ErrArg, 3},
		{func() api.Errno { return x.Remove(0, 0) }, api.OK, 2},
		{func() api.Errno { return x.Remove(0, 0) }, api.ErrNone, 2},
		{func() api.Errno { return x.Add(0, 31, 9) }, api.OK, 3},
		{func() api.Errno { return x.Remove(1, 32) }, api.OK, 2},
		{func() api.Errno { return x.Remove(0, 31) }, api.OK, 1},
		{func() api.Errno { return x.Remove(0, 32) }, api.OK, 0},
		{func() api.Errno { return x.Remove(0, 32) }, api.ErrNone, 0},
	}
	for i, s := range steps {
		if e := s.do(); e != s.e || x.Len() != s.len {
			t.Errorf("step %d: %d and Len %d, not %d and %d", i, e, x.Len(), s.e, s.len)
		}
		x.Find(0)
		x.Get(0, 32)
	}
}

// P17.3: of a nil Table, and of one that New did not make.
func TestClosed(t *testing.T) {
	for _, x := range []*lpm.Table{nil, {}} {
		for _, plen := range []int{-1, 0, 8, 33} {
			if e := x.Add(0, plen, 1); e != api.ErrClosed {
				t.Errorf("Add: %d", e)
			}
			if e := x.Remove(0, plen); e != api.ErrClosed {
				t.Errorf("Remove: %d", e)
			}
			lacks(t, x, 0, plen)
		}
		finds(t, x, 0, none())
		finds(t, x, math.MaxUint32, none())
		has(t, "closed", x)
	}
}

// permutations calls f with each order of a list.
func permutations(l []api.Route, n int, f func(l []api.Route)) {
	if n == len(l) {
		f(l)
		return
	}
	for i := n; i < len(l); i++ {
		l[n], l[i] = l[i], l[n]
		permutations(l, n+1, f)
		l[n], l[i] = l[i], l[n]
	}
}

// P17.4: nothing hangs on the order of Adds, nor on what was added and removed again, above it and below it.
func TestEveryOrder(t *testing.T) {
	l := []api.Route{route(0, 0, 1), route(addr(10, 0, 0, 0), 8, 2), route(addr(10, 0, 0, 0), 16, 3), route(addr(10, 0, 0, 1), 32, 4), route(addr(10, 128, 0, 0), 9, 5), route(addr(12, 0, 0, 0), 8, 6)}
	want := slices.Clone(l)
	ips := []uint32{0, addr(10, 0, 0, 1), addr(10, 0, 0, 2), addr(10, 1, 0, 0), addr(10, 128, 0, 0), addr(10, 127, 0, 0), addr(12, 1, 1, 1), addr(13, 1, 1, 1), addr(14, 1, 1, 1)}
	permutations(l, 0, func(l []api.Route) {
		x := filled(t, l...)
		has(t, "added", x, want...)
		for gone := range l {
			for _, r := range l[gone:] {
				removes(t, x, r)
			}
			rest := slices.Clone(l[:gone])
			slices.SortFunc(rest, inOrder)
			has(t, "some removed", x, rest...)
			for _, ip := range ips {
				finds(t, x, ip, longest(rest, ip))
			}
			for _, r := range l[gone:] {
				adds(t, x, r)
			}
		}
		has(t, "added again", x, want...)
	})
}

// longest is what Find should tell, by looking at one after the other.
func longest(l []api.Route, ip uint32) api.Route {
	best := none()
	for _, r := range l {
		if (uint64(ip)^uint64(r.Prefix))>>(32-r.Plen) == 0 && r.Plen > best.Plen {
			best = r
		}
	}
	return best
}

// P17.1, P17.2, P17.4: calls by chance, held against a map.
func TestByChance(t *testing.T) {
	type prefix struct {
		ip   uint32
		plen int
	}
	for seed := range int64(60) {
		chance := rand.New(rand.NewSource(seed))
		// Few bits, so that prefixes lie within one another and are there twice.
		ip := func() uint32 { return uint32(chance.Intn(8))<<29 | uint32(chance.Intn(4))<<14 | uint32(chance.Intn(4)) }
		x, model := lpm.New(), map[prefix]int{}
		for step := range 600 {
			p := prefix{ip(), []int{0, 1, 2, 3, 17, 18, 30, 31, 32, chance.Intn(36) - 1}[chance.Intn(10)]}
			if chance.Intn(8) > 0 {
				p.ip &= lpm.Mask(p.plen)
			}
			_, there := model[p]
			wrong := p.plen < 0 || p.plen > 32 || uint64(p.ip)<<p.plen&math.MaxUint32 != 0
			var got, want api.Errno
			switch adding := chance.Intn(5) < 2+int(seed%2); {
			case adding && wrong:
				got, want = x.Add(p.ip, p.plen, step), api.ErrArg
			case adding && there:
				got, want = x.Add(p.ip, p.plen, step), api.ErrTwice
			case adding:
				got, model[p] = x.Add(p.ip, p.plen, step), step
			case wrong:
				got, want = x.Remove(p.ip, p.plen), api.ErrArg
			case !there:
				got, want = x.Remove(p.ip, p.plen), api.ErrNone
			default:
				got = x.Remove(p.ip, p.plen)
				delete(model, p)
			}
			if got != want {
				t.Fatalf("seed %d, step %d, %v: %d, not %d", seed, step, p, got, want)
			}
			var rest []api.Route
			for p, v := range model {
				rest = append(rest, route(p.ip, p.plen, v))
			}
			slices.SortFunc(rest, inOrder)
			has(t, "by chance", x, rest...)
			for range 4 {
				q := ip()
				finds(t, x, q, longest(rest, q))
			}
			v, ok := x.Get(p.ip, p.plen)
			if w, is := model[p]; v != w || ok != is {
				t.Fatalf("seed %d, step %d, Get of %v: %d, %v", seed, step, p, v, ok)
			}
		}
	}
}

// P17.1, P17.2: many prefixes.
func TestMany(t *testing.T) {
	x := lpm.New()
	const many = 1 << 17
	for i := range uint32(many) {
		adds(t, x, route(i*2654435761, 32, int(i)))
	}
	for i := range uint32(many) {
		finds(t, x, i*2654435761, route(i*2654435761, 32, int(i)))
	}
	l := slices.Collect(x.All())
	if len(l) != many || !slices.IsSortedFunc(l, inOrder) || x.Len() != many {
		t.Errorf("%d of them, Len %d", len(l), x.Len())
	}
}
