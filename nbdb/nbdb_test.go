package nbdb_test

import (
	"math"
	"math/rand"
	"slices"
	"testing"

	"skein/api"
	"skein/nbdb"
)

// P18.1: a new one.
func TestNew(t *testing.T) {
	d, other := nbdb.New(), nbdb.New()
	has(t, "new", d, nil)
	if e, at := d.Apply(nil); e != api.OK || at != 0 {
		t.Errorf("Apply of nothing: %d, %d", e, at)
	}
	if e, at := d.Apply(comes(net()...)); e != api.OK || at != 0 {
		t.Errorf("Apply: %d, %d", e, at)
	}
	has(t, "filled", d, net())
	has(t, "another new one", other, nil)
}

// P18.1, P18.4: Rows in order, however they came.
func TestRowsInOrder(t *testing.T) {
	chance := rand.New(rand.NewSource(1))
	l := net()
	for range 50 {
		chance.Shuffle(len(l), func(i, j int) { l[i], l[j] = l[j], l[i] })
		has(t, "at once", database(t, l...), net())
	}
	slices.SortFunc(l, func(a, b api.Row) int { return a.Kind - b.Kind })
	// One by one, those that others name ahead of these.
	d := nbdb.New()
	late := func(r api.Row) bool { return r.Kind == api.RowPort }
	for _, r := range append(slices.DeleteFunc(slices.Clone(l), func(r api.Row) bool { return late(r) || r.Kind > api.RowRouterPort }), slices.DeleteFunc(slices.Clone(l), func(r api.Row) bool { return !late(r) && r.Kind <= api.RowRouterPort })...) {
		if e, at := d.Apply(comes(r)); e != api.OK || at != 0 {
			t.Fatalf("%s: %d, %d", textOf(r), e, at)
		}
	}
	has(t, "one by one", d, net())
}

// P18.1: the order, field by field: each row of a group parts from the next in one field of those that their kind
// uses, where what stands behind it says otherwise.
func TestOrderFieldByField(t *testing.T) {
	way := api.Way{Ip: addr(10, 0, 0, 1)}
	groups := map[string][]api.Row{
		"names, by bytes":    {sw("-"), sw("0"), sw("A"), sw("Z"), sw("_"), sw("a"), sw("aa"), sw("b")},
		"owners, then names": {sw("s"), sw("t"), vif("z", "s", 9, 9), vif("a", "t", 1, 1)},
		"kinds":              {sw("z"), vif("y", "z", 1, 1), router("x"), routerPort("w", "x", 1, 1, 1), bind("y", 1)},
		"routes, by owners, ports, Nums, Ips": {
			router("q"), router("r"), routerPort("a", "q", 1, 1, 32), routerPort("b", "r", 1, 1, 32), routerPort("c", "r", 1, 2, 32),
			route("q", 5<<28, 9, 9, "a"), route("r", 4<<28, 8, 9, "b"), route("r", 1<<28, 9, 9, "b"), route("r", 2<<28, 9, 1, "b"), route("r", 0, 0, 1, "c"),
		},
		"ACLs, by owners, Flags, Nums": {
			sw("s"), sw("t"),
			acl("s", false, 8, "tcp", 3), acl("s", false, 9, "arp", 1), acl("s", true, 0, "1", 1), acl("s", true, 32767, "0", 2), acl("t", false, 0, "0", 1),
		},
		"NATs, by owners, ports, Ips": {
			router("q"), router("r"), routerPort("a", "q", 1, 1, 32), routerPort("b", "r", 1, 1, 32), routerPort("c", "r", 1, 2, 32),
			nat("q", "a", 9, 9), nat("r", "b", 8, 9), nat("r", "b", 9, 8), nat("r", "c", 7, 7),
		},
		"VIPs, by owners, Nums, Num2s, Ips": {
			sw("s"), vif("a", "s", 1, addr(10, 0, 0, 1)),
			vip("s", 6, 9, 8, way), vip("s", 6, 7, 9, way), vip("s", 6, 1<<31, 9, way), vip("s", 17, 1, 0, way),
		},
	}
	for what, want := range groups {
		l := slices.Clone(want)
		for range l {
			l = append(l[1:], l[0])
			has(t, what, database(t, l...), want)
		}
	}
}

// P18.1: Same, of rows that part in one field.
func TestSame(t *testing.T) {
	full := api.Row{Kind: 1, Name: "a", Owner: "b", Peer: "c", Text: "d", Mac: 2, Ip: 3, Ip2: 4, Num: 5, Num2: 6, Flag: true, Flag2: true, Ways: ways(3)}
	others := map[string]func(r *api.Row){
		"Kind": func(r *api.Row) { r.Kind++ }, "Name": func(r *api.Row) { r.Name += "x" }, "Owner": func(r *api.Row) { r.Owner = "B" },
		"Peer": func(r *api.Row) { r.Peer = "cc" }, "Text": func(r *api.Row) { r.Text = "e" }, "Mac": func(r *api.Row) { r.Mac |= 1 << 63 },
		"Ip": func(r *api.Row) { r.Ip |= 1 << 31 }, "Ip2": func(r *api.Row) { r.Ip2 = 5 }, "Num": func(r *api.Row) { r.Num = math.MinInt }, "Num2": func(r *api.Row) { r.Num2 = -6 },
		"Flag": func(r *api.Row) { r.Flag = !r.Flag }, "Flag2": func(r *api.Row) { r.Flag2 = !r.Flag2 },
		"fewer Ways": func(r *api.Row) { r.Ways = r.Ways[:len(r.Ways)/2] }, "more Ways": func(r *api.Row) { r.Ways = append(r.Ways, api.Way{}) },
		"a Way's Ip": func(r *api.Row) { r.Ways[2].Ip++ }, "a Way's Port": func(r *api.Row) { r.Ways[0].Port++ }, "Ways' order": func(r *api.Row) { slices.Reverse(r.Ways) },
	}
	for what, change := range others {
		a, b := changed(full, func(*api.Row) {}), changed(full, change)
		if !nbdb.Same(a, full) || nbdb.Same(a, b) || nbdb.Same(b, a) || !nbdb.Same(b, b) {
			t.Errorf("%s", what)
		}
	}
	for what, fill := range fields() {
		if r := changed(api.Row{}, fill); nbdb.Same(r, api.Row{}) || nbdb.Same(api.Row{}, r) {
			t.Errorf("%s alone", what)
		}
	}
	if !nbdb.Same(api.Row{Ways: []api.Way{}}, api.Row{}) || !nbdb.Same(api.Row{}, api.Row{}) {
		t.Errorf("an empty list is another one than nil")
	}
}

// P18.2: a Del of what is not there, at each place of a transaction.
func TestDelOfNothing(t *testing.T) {
	extra := []api.Change{{Row: sw("x")}, goes(bind("b", 0)), {Row: bind("b", 9)}, {Row: vif("y", "x", 1, 1)}, goes(sw("x")), goes(vif("y", "", 0, 0))}
	nothing := []api.Row{
		sw("nobody"), sw("r"), vif("nobody", "s", 1, 1), router("s"), routerPort("nobody", "r", 1, 1, 1), route("r", addr(10, 9, 0, 0), 17, 1, "r-t"), route("q", 0, 0, 1, "r-x"),
		acl("s", false, 6, "1", 1), acl("t", true, 0, "1", 1), nat("r", "r-x", addr(1, 1, 1, 1), 1), nat("r", "r-t", addr(1, 1, 1, 3), 1), nat("q", "r-t", addr(1, 1, 1, 1), 1),
		vip("s", 6, addr(10, 0, 0, 99), 81), vip("s", 6, addr(10, 0, 0, 98), 80), vip("t", 6, addr(10, 0, 0, 99), 80), vip("s", 7, addr(10, 0, 0, 99), 80),
		bind("nobody", 1), {}, {Kind: 10}, {Kind: -1, Name: "s"}, {Kind: api.RowSwitch}, {Kind: api.RowRoute}, {Kind: api.RowAcl}, {Kind: api.RowNat}, {Kind: api.RowVip}, {Kind: api.RowBind},
	}
	for _, r := range nothing {
		for at := range len(extra) + 1 {
			d := database(t, net()...)
			l := slices.Insert(slices.Clone(extra), at, goes(r))
			// What is wrong behind it plays no part, nor that the rows are not well formed.
			l = append(l, goes(sw("nobody, too")), api.Change{Row: api.Row{}})
			if e, place := d.Apply(l); e != api.ErrNone || place != at {
				t.Errorf("%s at %d: %d, %d", textOf(r), at, e, place)
			}
			has(t, "refused", d, net())
		}
	}
	d := database(t, net()...)
	if e, at := d.Apply(extra); e != api.OK || at != 0 {
		t.Errorf("what is right: %d, %d", e, at)
	}
}

// P18.2: each row goes by its key alone; what it was behind a change that brought it, too.
func TestDelByKey(t *testing.T) {
	for _, r := range net() {
		bare := map[int]api.Row{
			api.RowRoute: {Kind: r.Kind, Owner: r.Owner, Ip: r.Ip, Num: r.Num},
			api.RowAcl:   {Kind: r.Kind, Owner: r.Owner, Flag: r.Flag, Num: r.Num},
			api.RowNat:   {Kind: r.Kind, Owner: r.Owner, Peer: r.Peer, Ip: r.Ip},
			api.RowVip:   {Kind: r.Kind, Owner: r.Owner, Num: r.Num, Ip: r.Ip, Num2: r.Num2},
		}
		x, ok := bare[r.Kind]
		if !ok {
			x = api.Row{Kind: r.Kind, Name: r.Name}
		}
		d := database(t, net()...)
		// Gone, brought again, gone, brought again: it is there as it was brought last.
		if e, at := d.Apply([]api.Change{goes(x), {Row: r}, goes(x), {Row: r}}); e != api.OK || at != 0 {
			t.Errorf("%s: %d, %d", textOf(r), e, at)
		}
		has(t, "gone and back", d, net())
		if e, at := d.Apply([]api.Change{{Row: r}, goes(x), goes(x), {Row: r}}); e != api.ErrNone || at != 2 {
			t.Errorf("%s, twice: %d, %d", textOf(r), e, at)
		}
		has(t, "gone twice", d, net())
		if e, at := d.Apply([]api.Change{{Row: x}, {Row: api.Row{Kind: 77}}, goes(api.Row{Kind: 77, Num: 5}), {Row: r}}); e != api.OK || at != 0 {
			t.Errorf("%s, not right in between: %d, %d", textOf(r), e, at)
		}
		has(t, "not right in between", d, net())
	}
	d := database(t, net()...)
	var l []api.Change
	for _, r := range net() {
		l = append(l, goes(r))
	}
	if e, at := d.Apply(l); e != api.OK || at != 0 {
		t.Errorf("all of them: %d, %d", e, at)
	}
	has(t, "all of them", d, nil)
}

// P18.2: a row that replaces another, of each kind.
func TestReplace(t *testing.T) {
	for _, kind := range []int{1, 2, 3, 4, 5, 6, 7, 8, 9} {
		r := one(kind)
		switch kind {
		case api.RowPort:
			r = vif("a", "s", 7, addr(10, 0, 0, 1))
		case api.RowRouterPort:
			r = routerPort(r.Name, "r", 7, 7, 7)
		case api.RowRoute:
			r.Ip2, r.Peer = 7, "r-x"
		case api.RowAcl:
			r.Text, r.Num2 = "0", 3
		case api.RowNat:
			r.Ip2 = 7
		case api.RowVip:
			r.Ways = ways(5)
		case api.RowBind:
			r.Num = 7
		}
		want := instead(r)
		slices.SortStableFunc(want, inModelOrder)
		d := database(t, net()...)
		if e, at := d.Apply(comes(r)); e != api.OK || at != 0 {
			t.Errorf("%s: %d, %d", textOf(r), e, at)
		}
		has(t, "replaced", d, want)
	}
	d := database(t, net()...)
	if e, at := d.Apply(comes(vif("s-r", "s", 7, 7))); e != api.OK || at != 0 {
		t.Errorf("a VIF for a link: %d, %d", e, at)
	}
	if r, ok := d.Get(api.RowPort, "s-r"); !ok || r.Peer != "" || r.Mac != 7 {
		t.Errorf("%s, %v", textOf(r), ok)
	}
}

// P18.2, P18.4: what is refused behind all changes changes nothing, and tells how many there were.
func TestRefused(t *testing.T) {
	d := database(t, net()...)
	for what, c := range map[string]struct {
		l []api.Change
		e api.Errno
	}{
		"a wrong row":                     {comes(sw("x"), sw("x y"), sw("z")), api.ErrRow},
		"one Mac":                         {comes(vif("x", "s", 0x020000000001, 7)), api.ErrClash},
		"an owner that goes":              {[]api.Change{goes(sw("t"))}, api.ErrOwner},
		"an owner that goes, with others": {[]api.Change{goes(bind("c", 0)), goes(vif("c", "", 0, 0)), goes(sw("t")), {Row: sw("x")}}, api.ErrOwner},
		"a VIF that goes":                 {[]api.Change{goes(vif("a", "", 0, 0))}, api.ErrOwner},
		"a Way's VIF that goes":           {[]api.Change{goes(bind("b", 0)), goes(vif("b", "", 0, 0))}, api.ErrClash},
		"an ACL's port that goes":         {[]api.Change{goes(link("s-r", "", ""))}, api.ErrAcl},
		"an ACL":                          {comes(acl("s", true, 9, "inport == c", 1)), api.ErrAcl},
		"an Ip that moves":                {comes(vif("b", "s", 0x020000000002, addr(10, 0, 0, 1))), api.ErrClash},
		"a wrong row that stays":          {comes(api.Row{Kind: 10}, sw("x")), api.ErrRow},
	} {
		if e, at := d.Apply(c.l); e != c.e || at != len(c.l) {
			t.Errorf("%s: %d, %d", what, e, at)
		}
		has(t, what, d, net())
	}
	if r, ok := d.Get(api.RowSwitch, "x"); ok || !nbdb.Same(r, api.Row{}) {
		t.Errorf("Get of what was refused: %s", textOf(r))
	}
	swap := comes(vif("a", "s", 0x020000000002, addr(10, 0, 0, 2)), vif("b", "s", 0x020000000001, addr(10, 0, 0, 1)))
	if e, at := d.Apply(swap); e != api.OK || at != 0 {
		t.Errorf("two that change places: %d, %d", e, at)
	}
}

// P18.3: Of each kind, with and without an owner.
func TestOf(t *testing.T) {
	d := database(t, net()...)
	for _, c := range []struct {
		kind  int
		owner string
		from  int
		to    int
	}{
		{api.RowSwitch, "", 0, 2}, {api.RowPort, "s", 2, 5}, {api.RowPort, "t", 5, 7}, {api.RowRouter, "", 7, 9}, {api.RowRouterPort, "q", 9, 10}, {api.RowRouterPort, "r", 10, 13},
		{api.RowRoute, "r", 13, 15}, {api.RowAcl, "s", 15, 17}, {api.RowAcl, "t", 17, 18}, {api.RowNat, "r", 18, 20}, {api.RowVip, "s", 20, 22}, {api.RowBind, "", 22, 25},
		{api.RowSwitch, "s", 0, 0}, {api.RowPort, "", 0, 0}, {api.RowPort, "r", 0, 0}, {api.RowPort, "a", 0, 0}, {api.RowRouter, "r", 0, 0}, {api.RowRouterPort, "", 0, 0}, {api.RowRouterPort, "s", 0, 0},
		{api.RowRoute, "", 0, 0}, {api.RowRoute, "q", 0, 0}, {api.RowAcl, "", 0, 0}, {api.RowNat, "", 0, 0}, {api.RowNat, "q", 0, 0}, {api.RowVip, "", 0, 0}, {api.RowVip, "t", 0, 0}, {api.RowBind, "a", 0, 0},
		{0, "", 0, 0}, {10, "", 0, 0}, {-1, "s", 0, 0}, {math.MaxInt, "", 0, 0}, {api.RowPort, "S", 0, 0},
	} {
		if l := d.Of(c.kind, c.owner); !slices.EqualFunc(l, net()[c.from:c.to], nbdb.Same) {
			t.Errorf("Of(%d, %q): %s", c.kind, c.owner, tell(l))
		}
	}
}

// P18.3: Get of kinds that have names, and of those that have none.
func TestGet(t *testing.T) {
	d := database(t, net()...)
	for _, r := range net() {
		got, ok := d.Get(r.Kind, r.Name)
		named := r.Kind <= api.RowRouterPort || r.Kind == api.RowBind
		if ok != named || named && !nbdb.Same(got, r) || !named && !nbdb.Same(got, api.Row{}) {
			t.Errorf("Get(%d, %q): %s, %v", r.Kind, r.Name, textOf(got), ok)
		}
	}
	for _, c := range []struct {
		kind int
		name string
	}{
		{api.RowSwitch, ""}, {api.RowSwitch, "r"}, {api.RowSwitch, "S"}, {api.RowPort, "s"}, {api.RowPort, ""}, {api.RowRouter, "s"}, {api.RowRouterPort, "a"}, {api.RowBind, "s-r"}, {api.RowBind, ""},
		{api.RowRoute, "r"}, {api.RowAcl, "s"}, {api.RowNat, "r"}, {api.RowVip, "s"}, {0, ""}, {0, "s"}, {10, "s"}, {-1, "s"}, {math.MinInt, "s"},
	} {
		if r, ok := d.Get(c.kind, c.name); ok || !nbdb.Same(r, api.Row{}) {
			t.Errorf("Get(%d, %q): %s, %v", c.kind, c.name, textOf(r), ok)
		}
	}
}

// P18.3: of a nil DB, and of one that New did not make.
func TestClosed(t *testing.T) {
	for _, d := range []*nbdb.DB{nil, {}} {
		for _, l := range [][]api.Change{nil, comes(net()...), {goes(sw("x"))}, comes(api.Row{})} {
			if e, at := d.Apply(l); e != api.ErrClosed || at != 0 {
				t.Errorf("Apply: %d, %d", e, at)
			}
		}
		if l := d.Rows(); len(l) != 0 {
			t.Errorf("Rows: %s", tell(l))
		}
		if l := d.Of(api.RowSwitch, ""); len(l) != 0 {
			t.Errorf("Of: %s", tell(l))
		}
		if r, ok := d.Get(api.RowSwitch, "s"); ok || !nbdb.Same(r, api.Row{}) {
			t.Errorf("Get: %s", textOf(r))
		}
	}
}

// R3: what is handed in is neither changed nor kept; answers share nothing with the DB, nor with one another.
func TestShares(t *testing.T) {
	l := comes(net()...)
	spare := ways(20)
	for i := range l {
		if n := len(l[i].Row.Ways); n > 0 {
			l[i].Row.Ways = append(spare[:0:10], l[i].Row.Ways...)
			spare = spare[10:]
		}
	}
	kept := make([]api.Row, len(l))
	for i, c := range l {
		kept[i] = changed(c.Row, func(*api.Row) {})
	}
	d := nbdb.New()
	if e, _ := d.Apply(l); e != api.OK {
		t.Fatalf("Apply: %d", e)
	}
	for i, c := range l {
		if !nbdb.Same(c.Row, kept[i]) {
			t.Errorf("Apply changed %s", textOf(c.Row))
		}
	}
	wipe := func(rows []api.Row) {
		rows = rows[:cap(rows)]
		for i := range rows {
			w := rows[i].Ways[:cap(rows[i].Ways)]
			for j := range w {
				w[j] = api.Way{Ip: 666, Port: -1}
			}
			rows[i] = api.Row{Kind: -1}
		}
	}
	first, second := d.Rows(), d.Rows()
	for i := range l {
		wipe([]api.Row{l[i].Row})
	}
	has(t, "wiped what was handed in", d, net())
	wipe(first)
	wipe(d.Of(api.RowVip, "s"))
	for _, r := range net() {
		got, _ := d.Get(r.Kind, r.Name)
		wipe([]api.Row{got})
	}
	has(t, "wiped what was answered", d, net())
	if !slices.EqualFunc(second, net(), nbdb.Same) {
		t.Errorf("two answers share: %s", tell(second))
	}
	// Rows that stay from one transaction to the next share nothing with what was answered in between.
	between := d.Rows()
	if e, _ := d.Apply(comes(sw("x"))); e != api.OK {
		t.Fatalf("Apply: %d", e)
	}
	wipe(between)
	if r := d.Of(api.RowVip, "s"); !slices.EqualFunc(r, net()[20:22], nbdb.Same) {
		t.Errorf("%s", tell(r))
	}
}
