package nbdb_test

import (
	"fmt"
	"math"
	"slices"
	"strconv"
	"strings"
	"testing"

	"skein/api"
	"skein/nbdb"
)

// P18.1: what is well formed.
func TestCheckTakes(t *testing.T) {
	checks(t, "nothing", nil, api.OK)
	checks(t, "an empty list", []api.Row{}, api.OK)
	checks(t, "a network", net(), api.OK)
	s, a, b := sw("s"), vif("a", "s", 1, 1), vif("b", "s", 2, 2)
	checks(t, "the document's example", []api.Row{s, a, b, bind("a", 3)}, api.OK)
	checks(t, "a VIF of no switch", []api.Row{a}, api.ErrOwner)
	checks(t, "two with one Mac", []api.Row{s, a, vif("b", "s", 1, 2)}, api.ErrClash)
	checks(t, "an ACL of a register", []api.Row{s, acl("s", false, 1, "reg0 == 1", 1)}, api.ErrAcl)
}

// P18.1, rule (1): as many rows as may be, and one more, whatever else is wrong.
func TestFull(t *testing.T) {
	var l []api.Row
	for i := range api.MaxRows {
		l = append(l, sw("s"+strconv.Itoa(i)))
	}
	checks(t, "1024 rows", l, api.OK)
	checks(t, "1025 rows", append(l, sw("more")), api.ErrFull)
	checks(t, "1025 rows, one wrong", append(slices.Clone(l), api.Row{}), api.ErrFull)
	checks(t, "1025 wrong rows", make([]api.Row, api.MaxRows+1), api.ErrFull)
	checks(t, "1024 wrong rows", make([]api.Row, api.MaxRows), api.ErrRow)
	checks(t, "very many", make([]api.Row, 100_000), api.ErrFull)
	checks(t, "1025 rows of one key", slices.Repeat([]api.Row{sw("s")}, api.MaxRows+1), api.ErrFull)
	d := database(t, l...)
	if e, at := d.Apply(comes(sw("more"))); e != api.ErrFull || at != 1 {
		t.Errorf("Apply: %d, %d", e, at)
	}
	if e, at := d.Apply([]api.Change{{Row: sw("more")}, goes(l[7])}); e != api.OK || at != 0 || len(d.Rows()) != api.MaxRows {
		t.Errorf("Apply of one for another: %d, %d", e, at)
	}
}

// P18.1, rule (1): kinds that may not be.
func TestKinds(t *testing.T) {
	for _, kind := range []int{0, -1, 10, 11, 256 + 1, 1<<32 + 1, math.MinInt, math.MaxInt} {
		r := api.Row{Kind: kind}
		checks(t, "kind "+strconv.Itoa(kind), with(r), api.ErrRow)
		r.Name = "x"
		checks(t, "kind "+strconv.Itoa(kind)+" with a name", []api.Row{r}, api.ErrRow)
	}
}

// fields fills each field of a row, with what could be in some kind.
func fields() map[string]func(r *api.Row) {
	return map[string]func(r *api.Row){
		"Name":  func(r *api.Row) { r.Name = "n" },
		"Owner": func(r *api.Row) { r.Owner = "s" },
		"Peer":  func(r *api.Row) { r.Peer = "r-x" },
		"Text":  func(r *api.Row) { r.Text = "1" },
		"Mac":   func(r *api.Row) { r.Mac = 1 },
		"Ip":    func(r *api.Row) { r.Ip = 1 },
		"Ip2":   func(r *api.Row) { r.Ip2 = 1 },
		"Num":   func(r *api.Row) { r.Num = 6 },
		"Num2":  func(r *api.Row) { r.Num2 = 1 },
		"Flag":  func(r *api.Row) { r.Flag = true },
		"Flag2": func(r *api.Row) { r.Flag2 = true },
		"Ways":  func(r *api.Row) { r.Ways = []api.Way{{Ip: addr(10, 0, 0, 1)}} },
	}
}

// P18.1, rule (1): each kind with each field that it does not use.
func TestFieldsOfOthers(t *testing.T) {
	kinds := map[string]struct {
		row  api.Row
		uses string
	}{
		"switch":        {sw("x"), "Name"},
		"VIF":           {vif("x", "s", 7, 7), "Name Owner Mac Ip Flag Flag2"},
		"link":          {link("x", "s", "r-x"), "Name Owner Peer"},
		"router":        {router("x"), "Name"},
		"router's port": {routerPort("x", "r", 7, 7, 32), "Name Owner Mac Ip Num"},
		"route":         {route("r", 0, 32, 7, "r-x"), "Owner Ip Num Ip2 Peer"},
		"ACL":           {acl("s", false, 7, "tcp", 1), "Owner Flag Num Text Num2"},
		"NAT":           {nat("r", "r-x", 7, 7), "Owner Peer Ip Ip2"},
		"VIP":           {vip("s", 6, 7, 7, api.Way{Ip: addr(10, 0, 0, 1)}), "Owner Num Ip Num2 Ways"},
		"bind":          {bind("x", 7), "Name Num"},
	}
	for kind, k := range kinds {
		extra := vif("x", "s", 8, 8)
		if kind == "VIF" || kind == "link" {
			extra = sw("y")
		}
		checks(t, kind, with(extra, k.row), api.OK)
		for field, fill := range fields() {
			r := changed(k.row, fill)
			used := slices.Contains(strings.Fields(k.uses), field)
			// A VIF with a Peer is a link with addresses.
			if e := nbdb.Check(with(extra, r)); !used && e != api.ErrRow || used && e == api.ErrRow {
				t.Errorf("%s with %s: %d", kind, field, e)
			}
		}
		empty := changed(k.row, func(r *api.Row) { r.Ways = append([]api.Way{}, r.Ways...) })
		checks(t, kind+" with a list that is not nil", with(extra, empty), api.OK)
	}
}

// P18.1, rule (1): names of 0, 1, 32 and 33 signs, and with each sign that may not be, wherever one stands.
func TestNames(t *testing.T) {
	places := map[string]func(name string) api.Row{
		"a switch":               sw,
		"a VIF":                  func(n string) api.Row { return vif(n, "s", 7, 7) },
		"a VIF's switch":         func(n string) api.Row { return vif("x", n, 7, 7) },
		"a link":                 func(n string) api.Row { return link(n, "s", "r-x") },
		"a link's switch":        func(n string) api.Row { return link("x", n, "r-x") },
		"a router":               router,
		"a router's port":        func(n string) api.Row { return routerPort(n, "r", 7, 7, 7) },
		"a router's port's":      func(n string) api.Row { return routerPort("x", n, 7, 7, 7) },
		"a route's router":       func(n string) api.Row { return route(n, 0, 7, 7, "r-x") },
		"a route's port":         func(n string) api.Row { return route("r", 0, 7, 7, n) },
		"an ACL's switch":        func(n string) api.Row { return acl(n, false, 7, "1", 1) },
		"a NAT's router":         func(n string) api.Row { return nat(n, "r-x", 7, 7) },
		"a NAT's port":           func(n string) api.Row { return nat("r", n, 7, 7) },
		"a VIP's switch":         func(n string) api.Row { return vip(n, 6, 7, 7, api.Way{Ip: 1}) },
		"a bind's VIF":           func(n string) api.Row { return bind(n, 7) },
		"a link's router's port": func(n string) api.Row { return link("x", "s", n) },
	}
	long := strings.Repeat("aZ09_-", 5)
	right := []string{"x", "_", "-", "0", "9", "Z", "-9", "__", long + "xy", strings.Repeat("-", 32)}
	wrong := []string{"", long + "xyz", strings.Repeat("x", 33), strings.Repeat("x", 1000), "ä", "x\x00", "\xff", "a\u00aa"}
	for c := range 256 {
		s := string([]byte{'x', byte(c), 'x'})
		if strings.Contains("abcdefghijklmnopqrstuvwxyzABCDEFGHIJKLMNOPQRSTUVWXYZ0123456789_-", string([]byte{byte(c)})) {
			right = append(right, s, s[1:], s[:2])
		} else {
			wrong = append(wrong, s, s[1:], s[:2])
		}
	}
	for place, row := range places {
		for _, name := range right {
			if e := nbdb.Check(with(row(name))); e == api.ErrRow {
				t.Errorf("%s, %q: %d", place, name, e)
			}
		}
		for _, name := range wrong {
			if e := nbdb.Check(with(row(name))); e != api.ErrRow {
				t.Errorf("%s, %q: %d", place, name, e)
			}
		}
	}
	for _, name := range right {
		checks(t, "a switch", []api.Row{sw(name)}, api.OK)
		checks(t, "a VIF", []api.Row{sw(name), vif(name, name, 1, 1), bind(name, 1)}, api.OK)
	}
}

// P18.1, rule (1): addresses at their edges.
func TestAddresses(t *testing.T) {
	for mac, want := range map[uint64]api.Errno{
		0: api.ErrRow, 1: api.OK, 1 << 47: api.OK, 1<<40 - 1: api.OK, 1 << 40: api.ErrRow, 1<<40 + 5: api.ErrRow, 1 << 41: api.OK, api.MaxMac: api.ErrRow,
		0xfeffffffffff: api.OK, 0xffffffffffff - 1<<41: api.ErrRow, 1 << 48: api.ErrRow, 1<<48 + 1: api.ErrRow, math.MaxUint64: api.ErrRow, 1<<63 + 1: api.ErrRow,
	} {
		checks(t, fmt.Sprintf("a VIF's Mac %#x", mac), with(vif("x", "s", mac, 7)), want)
		checks(t, fmt.Sprintf("a router's port's Mac %#x", mac), with(routerPort("x", "r", mac, 7, 7)), want)
	}
	for ip, want := range map[uint32]api.Errno{0: api.ErrRow, 1: api.OK, 1 << 31: api.OK, math.MaxUint32: api.OK} {
		checks(t, "a VIF's Ip", with(vif("x", "s", 7, ip)), want)
		checks(t, "a router's port's Ip", with(routerPort("x", "r", 7, ip, 32)), want)
		checks(t, "a route's next hop", with(route("r", 0, 32, ip, "r-x")), want)
		checks(t, "a NAT's external Ip", with(nat("r", "r-x", ip, 7)), want)
		checks(t, "a NAT's internal Ip", with(nat("r", "r-x", 7, ip)), want)
		checks(t, "a VIP's Ip", with(vip("s", 6, ip, 7, api.Way{Ip: addr(10, 0, 0, 1)})), want)
	}
	checks(t, "a Way's Ip", with(vip("s", 6, 7, 7, api.Way{})), api.ErrClash)
}

// P18.1, rule (1): a route's prefix has no bits beyond its Num.
func TestRoutes(t *testing.T) {
	for _, c := range []struct {
		ip   uint32
		plen int
		ok   bool
	}{
		{0, 0, false}, {0, 1, true}, {0, 32, true}, {0, 33, false}, {0, -1, false}, {1, 0, false}, {1 << 31, 0, false}, {1 << 31, 1, true}, {1 << 30, 1, false},
		{1, 31, false}, {2, 31, true}, {1, 32, true}, {math.MaxUint32, 32, true}, {math.MaxUint32, 31, false}, {math.MaxUint32, 33, false},
		{addr(10, 0, 0, 0), 8, true}, {addr(10, 0, 0, 1), 8, false}, {0, math.MinInt, false}, {0, math.MaxInt, false}, {0, 1 << 32, false},
	} {
		l := with(route("r", c.ip, c.plen, 7, "r-x"))
		want := api.ErrRow
		if c.ok {
			want = api.OK
		}
		if c.ip == 0 && c.plen == 0 { // net has one of this key
			want = api.ErrClash
		}
		checks(t, fmt.Sprintf("%#x/%d", c.ip, c.plen), l, want)
	}
	checks(t, "0.0.0.0/0", []api.Row{router("r"), routerPort("p", "r", 7, 7, 7), route("r", 0, 0, 7, "p")}, api.OK)
}

// P18.1, rule (1): numbers at their edges.
func TestNumbers(t *testing.T) {
	far := []int{math.MinInt, math.MaxInt, -1, 1 << 32, 1<<32 + 6, -32}
	for what, c := range map[string]struct {
		row          func(n int) api.Row
		right, wrong []int
	}{
		"a router's port's Num": {func(n int) api.Row { return routerPort("x", "r", 7, 7, n) }, []int{1, 2, 31, 32}, []int{0, 33}},
		"an ACL's Num":          {func(n int) api.Row { return acl("t", true, n, "1", 1) }, []int{0, 1, 32766, 32767}, []int{32768, 65536}},
		"an ACL's Num2":         {func(n int) api.Row { return acl("t", true, 1, "1", n) }, []int{1, 2, 3}, []int{0, 4}},
		"a VIP's Num":           {func(n int) api.Row { return vip("s", n, 7, 7, api.Way{Ip: addr(10, 0, 0, 1)}) }, []int{6, 17}, []int{0, 1, 5, 7, 16, 18}},
		"a VIP's Num2":          {func(n int) api.Row { return vip("s", 6, 7, n, api.Way{Ip: addr(10, 0, 0, 1)}) }, []int{0, 1, 80, 65534, 65535}, []int{65536, 65537}},
		"a Way's Port":          {func(n int) api.Row { return vip("s", 6, 7, 7, api.Way{Ip: addr(10, 0, 0, 1), Port: n}) }, []int{0, 1, 65535}, []int{65536}},
		"a last Way's Port": {func(n int) api.Row {
			return vip("s", 6, 7, 7, api.Way{Ip: addr(10, 0, 0, 1), Port: 5}, api.Way{Ip: addr(10, 0, 0, 1), Port: n})
		}, []int{0, 1, 65535}, []int{65536, 5}},
		"a bind's Num": {func(n int) api.Row { return bind("x", n) }, []int{0, 1, 62, 63}, []int{64, 65}},
	} {
		for _, n := range c.right {
			checks(t, what+" "+strconv.Itoa(n), with(vif("x", "s", 8, 8), c.row(n)), api.OK)
		}
		for _, n := range append(c.wrong, far...) {
			checks(t, what+" "+strconv.Itoa(n), with(vif("x", "s", 8, 8), c.row(n)), api.ErrRow)
		}
	}
}

// ways is so many Ways to one VIF, all unlike.
func ways(n int) []api.Way {
	var l []api.Way
	for i := range n {
		l = append(l, api.Way{Ip: addr(10, 0, 0, 1+uint32(i%2)), Port: i / 2})
	}
	return l
}

// P18.1, rule (1): Ways, as many as may be, each of another Ip or Port.
func TestWays(t *testing.T) {
	for n, want := range map[int]api.Errno{0: api.ErrRow, 1: api.OK, 2: api.OK, 63: api.OK, 64: api.OK, 65: api.ErrRow, 1000: api.ErrRow} {
		checks(t, strconv.Itoa(n)+" Ways", with(vip("s", 6, 7, 7, ways(n)...)), want)
	}
	for n := range 63 {
		checks(t, "a Way that is there twice", with(vip("s", 6, 7, 7, append(ways(63), ways(63)[n])...)), api.ErrRow)
	}
	checks(t, "one Ip, two Ports", with(vip("s", 6, 7, 7, ways(4)...)), api.OK)
}

// P18.1, rule (2): two rows of one key, whatever else they say; and rows that part in one field of their key.
func TestTwins(t *testing.T) {
	way, other := api.Way{Ip: addr(10, 0, 0, 1)}, api.Way{Ip: addr(10, 0, 0, 2)}
	for what, l := range map[string][]api.Row{
		"switches":         {sw("x"), sw("x")},
		"VIFs":             {vif("x", "s", 7, 7), vif("x", "t", 8, 8)},
		"a VIF and a link": {vif("x", "s", 7, 7), link("x", "s", "r-x")},
		"routers":          {router("x"), router("x")},
		"routers' ports":   {routerPort("x", "r", 7, 7, 7), routerPort("x", "q", 8, 8, 8)},
		"routes":           {route("r", 1<<31, 7, 7, "r-x"), route("r", 1<<31, 7, 8, "r-t")},
		"ACLs":             {acl("s", false, 7, "tcp", 1), acl("s", false, 7, "udp", 2)},
		"NATs":             {nat("r", "r-x", 7, 7), nat("r", "r-x", 7, 8)},
		"VIPs":             {vip("s", 6, 7, 7, way), vip("s", 6, 7, 7, other)},
		"binds":            {bind("x", 7), bind("x", 8)},
	} {
		checks(t, what, with(append(l, vif("y", "s", 9, 9))...), api.ErrClash)
	}
	for what, l := range map[string][]api.Row{
		"one Name of all kinds":  {sw("x"), vif("x", "s", 7, 7), router("x"), routerPort("x", "r", 7, 7, 32), bind("x", 7)},
		"routes' routers":        {route("r", 1<<31, 7, 7, "r-x"), route("q", 1<<31, 7, 7, "q-x")},
		"routes' Ips":            {route("r", 1<<31, 7, 7, "r-x"), route("r", 3<<30, 7, 7, "r-x")},
		"routes' Nums":           {route("r", 1<<31, 7, 7, "r-x"), route("r", 1<<31, 8, 7, "r-x")},
		"ACLs' switches":         {acl("s", false, 7, "tcp", 1), acl("t", false, 7, "tcp", 1)},
		"ACLs' directions":       {acl("s", false, 7, "tcp", 1), acl("s", true, 7, "tcp", 1)},
		"ACLs' priorities":       {acl("s", false, 7, "tcp", 1), acl("s", false, 8, "tcp", 1)},
		"NATs' routers":          {nat("r", "r-x", 7, 7), nat("q", "q-x", 7, 7)},
		"NATs' ports":            {nat("r", "r-x", 7, 7), nat("r", "r-s", 7, 7)},
		"NATs' Ips":              {nat("r", "r-x", 7, 7), nat("r", "r-x", 8, 8)},
		"VIPs' switches":         {vip("s", 6, 7, 7, way), vip("t", 6, 7, 7, api.Way{Ip: addr(10, 0, 1, 1)})},
		"VIPs' protocols":        {vip("s", 6, 7, 7, way), vip("s", 17, 7, 7, way)},
		"VIPs' Ips":              {vip("s", 6, 7, 7, way), vip("s", 6, 8, 7, way)},
		"VIPs' ports":            {vip("s", 6, 7, 7, way), vip("s", 6, 7, 8, way)},
		"binds' names":           {vif("x", "s", 7, 7), vif("y", "s", 8, 8), bind("x", 7), bind("y", 7)},
		"a NAT like a route":     {nat("r", "r-x", 1<<31, 7), route("r", 1<<31, 1, 7, "r-x")},
		"names by letters' case": {sw("x"), sw("X"), router("x"), router("X")},
	} {
		checks(t, what, with(l...), api.OK)
	}
}

// P18.1, rule (3): whose rows are.
func TestOwners(t *testing.T) {
	way := api.Way{Ip: addr(10, 0, 0, 1)}
	for _, nobody := range []string{"x", "a", "r-s", "S"} {
		checks(t, "a VIF of "+nobody, with(vif("y", nobody, 7, 7)), api.ErrOwner)
		checks(t, "a link of "+nobody, with(link("y", nobody, "r-x")), api.ErrOwner)
		checks(t, "a router's port of "+nobody, with(routerPort("y", nobody, 7, 7, 7)), api.ErrOwner)
		checks(t, "a route of "+nobody, with(route(nobody, 0, 7, 7, "r-x")), api.ErrOwner)
		checks(t, "an ACL of "+nobody, with(acl(nobody, false, 7, "1", 1)), api.ErrOwner)
		checks(t, "a NAT of "+nobody, with(nat(nobody, "r-x", 7, 7)), api.ErrOwner)
		checks(t, "a VIP of "+nobody, with(vip(nobody, 6, 7, 7, way)), api.ErrOwner)
	}
	for what, r := range map[string]api.Row{
		"a router's VIF":            vif("y", "r", 7, 7),
		"a router's link":           link("y", "r", "r-x"),
		"a switch's router's port":  routerPort("y", "s", 7, 7, 7),
		"a switch's route":          route("s", 0, 7, 7, "r-x"),
		"a router's ACL":            acl("r", false, 7, "1", 1),
		"a switch's NAT":            nat("s", "r-x", 7, 7),
		"a router's VIP":            vip("r", 6, 7, 7, way),
		"a link to nobody":          link("y", "s", "x"),
		"a link to a VIF":           link("y", "s", "b"),
		"a link to a link":          link("y", "s", "t-r"),
		"a link to a router":        link("y", "s", "q"),
		"a link to a switch":        link("y", "s", "t"),
		"a route out of nobody":     route("r", 0, 7, 7, "x"),
		"a route out of a VIF":      route("r", 0, 7, 7, "a"),
		"a route out of a link":     route("r", 0, 7, 7, "s-r"),
		"a route out of its router": route("r", 0, 7, 7, "r"),
		"a route out of another's":  route("r", 0, 7, 7, "q-x"),
		"a NAT at nobody":           nat("r", "x", 7, 7),
		"a NAT at a VIF":            nat("r", "a", 7, 7),
		"a NAT at its router":       nat("r", "r", 7, 7),
		"a NAT at another's":        nat("q", "r-x", 7, 7),
		"a bind of nobody":          bind("x", 7),
		"a bind of a link":          bind("s-r", 7),
		"a bind of a switch":        bind("s", 7),
		"a bind of a router":        bind("r", 7),
		"a bind of a router's port": bind("r-x", 7),
	} {
		checks(t, what, with(r), api.ErrOwner)
	}
	for what, l := range map[string][]api.Row{
		"without a switch":        without(api.RowSwitch, "t"),
		"without a router":        without(api.RowRouter, "q"),
		"without a VIF":           without(api.RowPort, "c"),
		"without a link's Peer":   without(api.RowRouterPort, "r-s"),
		"without a route's port":  without(api.RowRouterPort, "r-x"),
		"without anything at all": {bind("a", 1)},
	} {
		checks(t, what, l, api.ErrOwner)
	}
	checks(t, "without a link", without(api.RowPort, "t-r"), api.OK)
	checks(t, "without a bind", without(api.RowBind, "a"), api.OK)
	checks(t, "without a port that nobody names", without(api.RowRouterPort, "q-x"), api.OK)
}

// P18.1, rule (4): as many ports of a switch as may be, and one more.
func TestPorts(t *testing.T) {
	l := []api.Row{sw("x"), sw("y"), router("r"), routerPort("p", "r", 1<<32, 1<<31, 32)}
	for i := range api.MaxPorts - 1 {
		l = append(l, vif("x"+strconv.Itoa(i), "x", 1+uint64(i), 1+uint32(i)), vif("y"+strconv.Itoa(i), "y", 1+uint64(i), 1+uint32(i)))
	}
	checks(t, "127 ports each", l, api.OK)
	l = append(l, vif("y", "y", 1000, 1000), link("x", "x", "p"))
	checks(t, "128 ports each", l, api.OK)
	checks(t, "129 ports", append(slices.Clone(l), vif("more", "x", 1000, 1000)), api.ErrClash)
	checks(t, "129 ports, the last a link", append(slices.Clone(l), routerPort("q", "r", 1<<33, 1<<30, 32), link("more", "y", "q")), api.ErrClash)
}

// P18.1, rule (4): in one switch each Mac and each Ip once; each router's port the Peer of one.
func TestSwitchClashes(t *testing.T) {
	two := func(mac1, mac2 uint64, ip1, ip2 uint32, l ...api.Row) []api.Row {
		return with(append(l, routerPort("p1", "r", mac1, ip1, 31), routerPort("p2", "q", mac2, ip2, 32))...)
	}
	for what, c := range map[string]struct {
		l    []api.Row
		want api.Errno
	}{
		"VIFs with one Mac":                    {with(vif("x", "s", 0x020000000002, 7)), api.ErrClash},
		"VIFs with one Ip":                     {with(vif("x", "s", 7, addr(10, 0, 0, 2))), api.ErrClash},
		"VIFs of two switches":                 {with(vif("x", "t", 0x020000000002, addr(10, 0, 0, 2))), api.OK},
		"a VIF's Mac that is a Peer's":         {with(vif("x", "s", 0x020000000011, 7)), api.ErrClash},
		"a VIF's Ip that is a Peer's":          {with(vif("x", "s", 7, addr(10, 0, 0, 254))), api.ErrClash},
		"a VIF's that are another's Peer's":    {with(vif("x", "t", 0x020000000011, addr(10, 0, 0, 254))), api.OK},
		"a VIF's that are of a port of nobody": {with(vif("x", "s", 0x020000000012, addr(10, 0, 2, 254))), api.OK},
		"Peers with one Mac":                   {two(7, 7, 8, 10, link("x", "s", "p1"), link("y", "s", "p2")), api.ErrClash},
		"Peers with one Ip":                    {two(7, 8, 10, 10, link("x", "s", "p1"), link("y", "s", "p2")), api.ErrClash},
		"Peers with nothing in common":         {two(7, 8, 8, 10, link("x", "s", "p1"), link("y", "s", "p2")), api.OK},
		"Peers in two switches":                {two(7, 7, 10, 10, link("x", "s", "p1"), link("y", "t", "p2")), api.OK},
		"routers' ports that are no Peers":     {two(7, 7, 10, 10, link("x", "s", "p1")), api.OK},
		"a Peer of two in one switch":          {with(link("x", "s", "r-s")), api.ErrClash},
		"a Peer of two in two switches":        {with(link("x", "t", "r-s")), api.ErrClash},
		"a Peer of one, and of routes, NATs":   {with(link("x", "s", "r-x"), nat("r", "r-x", 7, 7), nat("r", "r-x", 8, 8)), api.OK},
	} {
		checks(t, what, c.l, c.want)
	}
}

// P18.1, rule (5): prefixes of a router, NATs.
func TestRouterClashes(t *testing.T) {
	for what, c := range map[string]struct {
		l    []api.Row
		want api.Errno
	}{
		"one prefix":                      {with(routerPort("x", "r", 7, addr(10, 0, 0, 1), 24)), api.ErrClash},
		"one Ip and prefix":               {with(routerPort("x", "r", 7, addr(10, 0, 0, 254), 24)), api.ErrClash},
		"one prefix of two routers":       {with(routerPort("x", "q", 7, addr(10, 0, 1, 254), 24)), api.OK},
		"a longer prefix":                 {with(routerPort("x", "r", 7, addr(10, 0, 0, 1), 25)), api.OK},
		"a shorter prefix":                {with(routerPort("x", "r", 7, addr(10, 0, 0, 1), 23)), api.OK},
		"one Ip, another Num":             {with(routerPort("x", "r", 7, addr(10, 0, 0, 254), 25)), api.OK},
		"the next prefix":                 {with(routerPort("x", "r", 7, addr(10, 0, 3, 0), 24)), api.OK},
		"one prefix of 1":                 {with(routerPort("x", "r", 7, 1, 1), routerPort("y", "r", 7, 1<<31-1, 1)), api.ErrClash},
		"both prefixes of 1":              {with(routerPort("x", "r", 7, 1, 1), routerPort("y", "r", 7, 1<<31, 1)), api.OK},
		"one prefix of 32":                {with(routerPort("x", "r", 7, 9, 32), routerPort("y", "r", 7, 9, 32)), api.ErrClash},
		"both prefixes of 32":             {with(routerPort("x", "r", 7, 8, 32), routerPort("y", "r", 7, 9, 32)), api.OK},
		"a NAT's Ip its port's":           {with(nat("r", "r-x", addr(10, 0, 2, 254), 7)), api.ErrClash},
		"a NAT's Ip another port's":       {with(nat("r", "r-x", addr(10, 0, 0, 254), 7)), api.ErrClash},
		"a NAT's Ip another router's":     {with(nat("q", "q-x", addr(10, 0, 1, 254), 7)), api.OK},
		"a NAT's Ip2 its port's":          {with(nat("r", "r-x", 7, addr(10, 0, 2, 254))), api.OK},
		"a NAT's Ip both":                 {with(nat("r", "r-x", 7, 7)), api.OK},
		"a NAT's Ip another NAT's Ip2":    {with(nat("r", "r-t", addr(10, 0, 0, 1), 7)), api.OK},
		"NATs of one port, one Ip":        {with(nat("r", "r-t", addr(1, 1, 1, 1), 7)), api.ErrClash},
		"NATs of one port, one Ip2":       {with(nat("r", "r-t", 7, addr(10, 0, 0, 1))), api.ErrClash},
		"NATs of two ports":               {with(nat("r", "r-x", addr(1, 1, 1, 1), addr(10, 0, 0, 1))), api.OK},
		"NATs of two ports, one Ip2":      {with(nat("r", "r-x", 7, addr(10, 0, 0, 1))), api.OK},
		"NATs of two routers":             {with(nat("q", "q-x", addr(1, 1, 1, 1), addr(10, 0, 0, 1))), api.OK},
		"NATs of one port, both unlike":   {with(nat("r", "r-t", 7, 8)), api.OK},
		"a route's prefix that is a port": {with(route("r", addr(10, 0, 0, 0), 24, 7, "r-x")), api.OK},
	} {
		checks(t, what, c.l, c.want)
	}
}

// P18.1, rule (6): VIPs.
func TestVipClashes(t *testing.T) {
	a, b, c := api.Way{Ip: addr(10, 0, 0, 1)}, api.Way{Ip: addr(10, 0, 0, 2)}, api.Way{Ip: addr(10, 0, 1, 1)}
	peer, nobody := api.Way{Ip: addr(10, 0, 0, 254)}, api.Way{Ip: 7}
	for what, x := range map[string]struct {
		row  api.Row
		want api.Errno
	}{
		"an Ip of a VIF":              {vip("s", 6, addr(10, 0, 0, 2), 7, a), api.ErrClash},
		"an Ip of its own Way":        {vip("s", 6, addr(10, 0, 0, 1), 7, a), api.ErrClash},
		"an Ip of a Peer":             {vip("s", 6, addr(10, 0, 0, 254), 7, a), api.ErrClash},
		"an Ip of another switch":     {vip("s", 6, addr(10, 0, 1, 1), 7, a), api.OK},
		"an Ip of another one's Peer": {vip("s", 6, addr(10, 0, 1, 254), 7, a), api.OK},
		"an Ip of a port of nobody":   {vip("s", 6, addr(10, 0, 2, 254), 7, a), api.OK},
		"an Ip of another VIP":        {vip("s", 6, addr(10, 0, 0, 99), 7, a), api.OK},
		"Ways to both":                {vip("s", 6, 7, 7, a, b), api.OK},
		"a Way to another switch":     {vip("s", 6, 7, 7, c), api.ErrClash},
		"a last Way to another":       {vip("s", 6, 7, 7, a, b, c), api.ErrClash},
		"a first Way to another":      {vip("s", 6, 7, 7, c, a, b), api.ErrClash},
		"a Way to a Peer":             {vip("s", 6, 7, 7, a, peer), api.ErrClash},
		"a Way to nobody":             {vip("s", 6, 7, 7, nobody), api.ErrClash},
		"a Way to itself":             {vip("s", 6, 7, 7, a, nobody), api.ErrClash},
	} {
		checks(t, what, with(x.row), x.want)
	}
}

// P18.1, rule (7): ACLs, and the fields that they may name.
func TestAclRule(t *testing.T) {
	for text, want := range map[string]api.Errno{
		"1": api.OK, "0": api.OK, "tcp && tp.dst == {80, 443}": api.OK, "!icmp": api.OK, "arp.op == 1 || arp.tpa == 10.0.0.1": api.OK,
		"inport == a": api.OK, "inport == \"a\"": api.OK, "outport == \"s-r\"": api.OK, "outport != a": api.OK, "outport != {a, b}": api.ErrAcl, "inport == 5": api.OK, "inport == 0": api.OK,
		"": api.ErrAcl, "tcp &&": api.ErrAcl, "x == 1": api.ErrAcl, "tcp $": api.ErrAcl, "ip4.src == 10.0.0": api.ErrAcl, "eth.dst == 10.0.0.1": api.ErrAcl,
		"inport == c": api.ErrAcl, "inport == \"t-r\"": api.ErrAcl, "inport == nobody": api.ErrAcl, "inport == s": api.ErrAcl, "inport == \"r-s\"": api.ErrAcl,
		"tp.dst != 5 && tp.src != 5": api.ErrAcl, strings.Repeat("(", 33) + "1" + strings.Repeat(")", 33): api.ErrAcl, strings.Repeat("(", 32) + "1" + strings.Repeat(")", 32): api.OK,
		"1" + strings.Repeat(" ", 4095): api.OK, "1" + strings.Repeat(" ", 4096): api.ErrAcl,
		"ct.state == 1": api.ErrAcl, "datapath == 1": api.ErrAcl, "reg0 == 1": api.ErrAcl, "reg1 == 1": api.ErrAcl, "reg2 != 1": api.ErrAcl, "reg3 < 1": api.ErrAcl,
		"0 && reg3 == 1": api.ErrAcl, "1 || !(tcp && (arp || datapath == 7))": api.ErrAcl, "tcp && ct.state == 2/2": api.ErrAcl,
		"ip.ttl == a": api.OK, "eth.src == b": api.OK, "ip4.src == a": api.OK, "inport < b && outport >= a": api.OK,
	} {
		for _, to := range []bool{false, true} {
			checks(t, text, with(acl("s", to, 9, text, 1)), want)
		}
	}
	for f, name := range []string{
		"eth.dst", "eth.src", "eth.type", "vlan.tag", "arp.op", "arp.sha", "arp.spa", "arp.tha", "arp.tpa", "ip4.src", "ip4.dst", "ip.proto", "ip.ttl", "ip.tos", "ip.frag",
		"icmp.type", "icmp.code", "tp.src", "tp.dst", "tcp.flags", "ct.state", "datapath", "inport", "outport", "reg0", "reg1", "reg2", "reg3",
	} {
		want := api.OK
		if f+1 >= api.CtState && f+1 != api.InPort && f+1 != api.OutPort {
			want = api.ErrAcl
		}
		for _, op := range []string{"==", "!=", "<=", ">"} {
			checks(t, name, with(acl("t", false, 9, name+" "+op+" 3", 2)), want)
		}
		_, e := nbdb.Acl(nil, nil, name+" == 1")
		if e != want {
			t.Errorf("Acl of %s: %d", name, e)
		}
	}
}

// P18.1, rule (7): each name stands for 1. How many matches a comparison has tells by which number it was read.
func TestAclNamesAreOne(t *testing.T) {
	constants := func(n int) string {
		var l []string
		for i := range n {
			l = append(l, strconv.Itoa(i))
		}
		return " || tp.dst == {" + strings.Join(l, ",") + "}"
	}
	for _, port := range []string{"a", "b", "\"s-r\""} {
		checks(t, "up to it", with(acl("s", true, 9, "inport <= "+port+constants(127), 1)), api.OK)
		checks(t, "up to it, too wide", with(acl("s", true, 9, "inport <= "+port+constants(128), 1)), api.ErrAcl)
		checks(t, "below it", with(acl("s", true, 9, "inport < "+port+constants(127), 1)), api.OK)
		checks(t, "below it, too wide", with(acl("s", true, 9, "inport < "+port+constants(128), 1)), api.ErrAcl)
	}
}

// P18.1, R2: of several rules that are broken the first is told, whatever the others are.
func TestFirstRule(t *testing.T) {
	breaks := []struct {
		rows []api.Row
		e    api.Errno
	}{
		{slices.Repeat([]api.Row{sw("s")}, 1025), api.ErrFull},
		{[]api.Row{{Kind: api.RowAcl}}, api.ErrRow},
		{[]api.Row{bind("a", 5)}, api.ErrClash},
		{[]api.Row{link("x", "s", "nobody")}, api.ErrOwner},
		{[]api.Row{vif("y", "s", 0x020000000002, 9)}, api.ErrClash},
		{[]api.Row{nat("r", "r-x", addr(10, 0, 2, 254), 9)}, api.ErrClash},
		{[]api.Row{vip("s", 17, 9, 9, api.Way{Ip: 8})}, api.ErrClash},
		{[]api.Row{acl("s", true, 99, "reg0 == 1", 1)}, api.ErrAcl},
	}
	for i, first := range breaks {
		checks(t, "one", with(first.rows...), first.e)
		var rest []api.Row
		for _, later := range breaks[i+1:] {
			checks(t, "two", with(append(slices.Clone(first.rows), later.rows...)...), first.e)
			rest = append(rest, later.rows...)
		}
		checks(t, "all", with(append(rest, first.rows...)...), first.e)
	}
}

// R3: Check changes nothing that is handed in.
func TestCheckChangesNothing(t *testing.T) {
	l := with(make([]api.Row, 3)...)[:len(net())]
	behind := l[len(l):cap(l)]
	nbdb.Check(l)
	if !slices.EqualFunc(l, net(), nbdb.Same) || slices.ContainsFunc(behind, func(r api.Row) bool { return !nbdb.Same(r, api.Row{}) }) {
		t.Errorf("%s", tell(l))
	}
}
