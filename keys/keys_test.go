package keys_test

import (
	"maps"
	"math"
	"math/rand"
	"slices"
	"strconv"
	"testing"

	"skein/api"
	"skein/keys"
)

const mostPort = 65535

// list is one of the four lists of keys: the kind of rows that it is of, the greatest number, which list shares its
// row of numbers, and one that does not.
type list struct {
	name   string
	kind   int
	most   int
	of     func(k *api.Keys) *[]api.Key
	shared int
	apart  int
}

func lists() []list {
	return []list{
		{"Switches", api.RowSwitch, api.MaxVni, func(k *api.Keys) *[]api.Key { return &k.Switches }, 1, 2},
		{"Routers", api.RowRouter, api.MaxVni, func(k *api.Keys) *[]api.Key { return &k.Routers }, 0, 3},
		{"Ports", api.RowPort, mostPort, func(k *api.Keys) *[]api.Key { return &k.Ports }, 3, 0},
		{"RouterPorts", api.RowRouterPort, mostPort, func(k *api.Keys) *[]api.Key { return &k.RouterPorts }, 2, 1},
	}
}

func key(name string, num int) api.Key { return api.Key{Name: name, Num: num} }

// some is right keys with names and numbers in all lists.
func some() api.Keys {
	return api.Keys{
		Switches:    []api.Key{key("s", 7), key("t", 2)},
		Routers:     []api.Key{key("q", 9), key("s", 1)},
		Ports:       []api.Key{key("a", 2), key("b", 1), key("c", 9)},
		RouterPorts: []api.Key{key("a", 5)},
	}
}

func row(kind int, name string) api.Row { return api.Row{Kind: kind, Name: name} }

// rowsOf is rows of all names of keys.
func rowsOf(k api.Keys) []api.Row {
	var out []api.Row
	for _, l := range lists() {
		for _, x := range *l.of(&k) {
			out = append(out, row(l.kind, x.Name))
		}
	}
	return out
}

func same(a, b api.Keys) bool {
	for _, l := range lists() {
		if !slices.Equal(*l.of(&a), *l.of(&b)) {
			return false
		}
	}
	return true
}

// checks asks what Check tells of keys, and that Update refuses those that are not right.
func checks(t *testing.T, what string, k api.Keys, want api.Errno) {
	t.Helper()
	if e := keys.Check(k); e != want {
		t.Errorf("%s: %d, not %d: %v", what, e, want, k)
	}
	for _, rows := range [][]api.Row{nil, rowsOf(k), {row(api.RowSwitch, "new")}} {
		got, e := keys.Update(k, rows)
		if e != want || e != api.OK && !same(got, api.Keys{}) {
			t.Errorf("%s: Update: %d, not %d: %v of %v", what, e, want, got, k)
		}
	}
}

// updates asks what Update answers, that it is right, and that Update of it changes nothing.
func updates(t *testing.T, what string, k api.Keys, rows []api.Row, want api.Keys) {
	t.Helper()
	got, e := keys.Update(k, rows)
	if e != api.OK || !same(got, want) {
		t.Errorf("%s: %v, %d, not %v", what, got, e, want)
	}
	if e := keys.Check(got); e != api.OK {
		t.Errorf("%s: not right: %v", what, got)
	}
	if again, e := keys.Update(got, rows); e != api.OK || !same(again, got) {
		t.Errorf("%s: again: %v, %d", what, again, e)
	}
}

// P19.1: keys that are right.
func TestCheckRight(t *testing.T) {
	checks(t, "none", api.Keys{}, api.OK)
	checks(t, "empty lists", api.Keys{Switches: []api.Key{}, Routers: []api.Key{}, Ports: []api.Key{}, RouterPorts: []api.Key{}}, api.OK)
	checks(t, "some", some(), api.OK)
}

// P19.1: names that rise, that are the same, that fall, in each list.
func TestCheckNames(t *testing.T) {
	for _, l := range lists() {
		for _, x := range []struct {
			names []string
			want  api.Errno
		}{
			{[]string{"a"}, api.OK}, {[]string{""}, api.OK}, {[]string{"", "a"}, api.OK}, {[]string{"a", "aa", "ab", "b"}, api.OK},
			{[]string{"-", "0", "A", "Z", "_", "a", "z", "\x7f", "\u00e9", "\xff"}, api.OK},
			{[]string{"a", "a"}, api.ErrKey}, {[]string{"", ""}, api.ErrKey}, {[]string{"b", "a"}, api.ErrKey}, {[]string{"a", ""}, api.ErrKey},
			{[]string{"aa", "a"}, api.ErrKey}, {[]string{"a", "Z"}, api.ErrKey}, {[]string{"a", "b", "b"}, api.ErrKey},
			{[]string{"a", "c", "b"}, api.ErrKey}, {[]string{"b", "a", "c"}, api.ErrKey}, {[]string{"10", "9", "1"}, api.ErrKey},
		} {
			k := api.Keys{}
			for i, name := range x.names {
				*l.of(&k) = append(*l.of(&k), key(name, 100-i))
			}
			checks(t, l.name, k, x.want)
		}
	}
	// Names of unlike lists have nothing to do with one another.
	checks(t, "one name in all", api.Keys{Switches: []api.Key{key("a", 1)}, Routers: []api.Key{key("a", 2)}, Ports: []api.Key{key("a", 1)}, RouterPorts: []api.Key{key("a", 2)}}, api.OK)
}

// P19.1: numbers at the edges, in each list.
func TestCheckNumbers(t *testing.T) {
	for _, l := range lists() {
		for num, want := range map[int]api.Errno{
			1: api.OK, 2: api.OK, l.most - 1: api.OK, l.most: api.OK,
			0: api.ErrKey, -1: api.ErrKey, l.most + 1: api.ErrKey, math.MinInt: api.ErrKey, math.MaxInt: api.ErrKey, 1<<32 + 1: api.ErrKey,
		} {
			for _, names := range [][]api.Key{{key("a", num)}, {key("a", 9), key("b", num)}, {key("a", num), key("b", 9)}} {
				k := api.Keys{}
				*l.of(&k) = names
				checks(t, l.name, k, want)
			}
		}
	}
}

// P19.1: one number twice: in a list, in two that go together, in two that do not.
func TestCheckTwice(t *testing.T) {
	all := lists()
	for _, l := range all {
		for _, num := range []int{1, 7, mostPort} {
			k := api.Keys{}
			*l.of(&k) = []api.Key{key("a", num), key("b", num+1), key("c", num)}
			checks(t, l.name, k, api.ErrKey)

			k = api.Keys{}
			*l.of(&k) = []api.Key{key("a", num)}
			*all[l.shared].of(&k) = []api.Key{key("b", num)}
			checks(t, l.name+" and "+all[l.shared].name, k, api.ErrKey)

			k = api.Keys{}
			*l.of(&k) = []api.Key{key("a", num)}
			*all[l.apart].of(&k) = []api.Key{key("a", num)}
			checks(t, l.name+" and "+all[l.apart].name, k, api.OK)
		}
	}
}

// P19.1: what is there once, twice, not at all, in lists that are right or not.
func TestFindAndName(t *testing.T) {
	l := []api.Key{key("b", 5), key("a", 3), key("b", 3), key("", 0), key("c", -1), key("a", 5), key("A", math.MaxInt)}
	for name, want := range map[string]int{"a": 3, "b": 5, "c": -1, "": 0, "A": math.MaxInt} {
		if n, ok := keys.Find(l, name); n != want || !ok {
			t.Errorf("Find %q: %d, %v", name, n, ok)
		}
	}
	for num, want := range map[int]string{5: "b", 3: "a", 0: "", -1: "c", math.MaxInt: "A"} {
		if s, ok := keys.Name(l, num); s != want || !ok {
			t.Errorf("Name %d: %q, %v", num, s, ok)
		}
	}
	for _, l := range [][]api.Key{nil, {}, {key("aa", 2)}, l[:1:2]} {
		for _, name := range []string{"a", "", "B", "bb"} {
			if n, ok := keys.Find(l, name); n != 0 || ok {
				t.Errorf("Find %q of %v: %d, %v", name, l, n, ok)
			}
		}
		for _, num := range []int{3, 0, -1, math.MinInt} {
			if s, ok := keys.Name(l, num); s != "" || ok {
				t.Errorf("Name %d of %v: %q, %v", num, l, s, ok)
			}
		}
	}
}

// The chapter's example.
func TestExample(t *testing.T) {
	first := api.Keys{Switches: []api.Key{key("a", 1), key("b", 2)}, Routers: []api.Key{key("r", 3)}}
	updates(t, "at first", api.Keys{}, []api.Row{row(api.RowSwitch, "b"), row(api.RowSwitch, "a"), row(api.RowRouter, "r")}, first)
	updates(t, "then", first, []api.Row{row(api.RowRouter, "r"), row(api.RowSwitch, "c"), row(api.RowSwitch, "b")},
		api.Keys{Switches: []api.Key{key("b", 2), key("c", 1)}, Routers: []api.Key{key("r", 3)}})
}

// P19.2: of no rows, and of rows of kinds that have no keys.
func TestUpdateOfNothing(t *testing.T) {
	others := []api.Row{{}, {Kind: -1, Name: "a"}, {Kind: 10, Name: "a"}, {Kind: api.RowRoute, Name: "a", Owner: "q"}, {Kind: api.RowAcl, Name: "a", Owner: "s"},
		{Kind: api.RowNat, Name: "a", Owner: "q", Peer: "a"}, {Kind: api.RowVip, Name: "a", Owner: "s"}, {Kind: api.RowBind, Name: "a"}}
	for _, k := range []api.Keys{{}, some()} {
		updates(t, "no rows", k, nil, api.Keys{})
		updates(t, "an empty list", k, []api.Row{}, api.Keys{})
		updates(t, "other kinds", k, others, api.Keys{})
		updates(t, "other kinds beside all", k, append(rowsOf(k), others...), k)
	}
}

// P19.2: one name in several rows, and in several kinds; a name's form plays no part, nor what else rows have.
func TestUpdateNames(t *testing.T) {
	rows := []api.Row{
		row(api.RowPort, "a"), {Kind: api.RowPort, Name: "a", Owner: "x", Mac: 5}, row(api.RowRouterPort, "a"), row(api.RowSwitch, "a"), row(api.RowRouter, "a"),
		{Kind: api.RowRouter, Name: "a", Owner: "b", Peer: "c", Text: "d"}, row(api.RowPort, "a"), row(api.RowSwitch, "a"),
	}
	updates(t, "one name", api.Keys{}, rows, api.Keys{Switches: []api.Key{key("a", 1)}, Routers: []api.Key{key("a", 2)}, Ports: []api.Key{key("a", 1)}, RouterPorts: []api.Key{key("a", 2)}})
	for _, l := range lists() {
		var rows []api.Row
		want := api.Keys{}
		for i, name := range []string{"", " ", "-", "10", "9", "A", "a", "a\x00", "aa", "\xff", "\xff\xff"} {
			rows = append([]api.Row{row(l.kind, name)}, append(rows, row(l.kind, name))...)
			*l.of(&want) = append(*l.of(&want), key(name, i+1))
		}
		updates(t, l.name, api.Keys{}, rows, want)
	}
}

// P19.2: which name gets the first number, list by list, whatever the order of rows.
func TestUpdateOrder(t *testing.T) {
	want := api.Keys{
		Switches:    []api.Key{key("y", 1), key("z", 2)},
		Routers:     []api.Key{key("a", 3), key("b", 4), key("z", 5)},
		Ports:       []api.Key{key("z", 1)},
		RouterPorts: []api.Key{key("a", 2), key("m", 3)},
	}
	rows := rowsOf(want)
	for range rows {
		rows = append(rows[1:], rows[0])
		updates(t, "turned", api.Keys{}, rows, want)
		slices.Reverse(rows)
		updates(t, "the other way round", api.Keys{}, rows, want)
		slices.Reverse(rows)
	}
}

// P19.2, P19.3: names that stay, that go, that come, and the numbers that are free again.
func TestUpdateComesAndGoes(t *testing.T) {
	for _, l := range lists() {
		all := lists()
		other := all[l.shared]
		k := api.Keys{}
		*l.of(&k) = []api.Key{key("a", 4), key("c", 2), key("e", l.most), key("g", 1)}
		*other.of(&k) = []api.Key{key("a", 3), key("c", 6)}
		for _, x := range []struct {
			what         string
			here, there  []string
			want, beside []api.Key
		}{
			{"all stay", []string{"g", "e", "c", "a"}, []string{"a", "c"}, *l.of(&k), *other.of(&k)},
			{"one comes", []string{"a", "b", "c", "e", "g"}, []string{"a", "c"}, []api.Key{key("a", 4), key("b", 5), key("c", 2), key("e", l.most), key("g", 1)}, *other.of(&k)},
			{"two come", []string{"a", "z", "c", "b", "e", "g"}, []string{"a", "c"}, []api.Key{key("a", 4), key("b", 5), key("c", 2), key("e", l.most), key("g", 1), key("z", 7)}, *other.of(&k)},
			{"one goes", []string{"a", "e", "g"}, []string{"a", "c"}, []api.Key{key("a", 4), key("e", l.most), key("g", 1)}, *other.of(&k)},
			{"one goes, two come", []string{"a", "e", "g", "i", "h"}, []string{"a", "c"}, []api.Key{key("a", 4), key("e", l.most), key("g", 1), key("h", 2), key("i", 5)}, *other.of(&k)},
			{"a number of the other list", []string{"a", "b", "c", "e", "g"}, []string{"c"}, []api.Key{key("a", 4), key("b", 3), key("c", 2), key("e", l.most), key("g", 1)}, []api.Key{key("c", 6)}},
			{"the greatest goes", []string{"a", "c", "f", "g"}, []string{"a", "c"}, []api.Key{key("a", 4), key("c", 2), key("f", 5), key("g", 1)}, *other.of(&k)},
			{"all others", []string{"b", "d"}, nil, []api.Key{key("b", 1), key("d", 2)}, nil},
		} {
			var rows []api.Row
			for _, name := range x.here {
				rows = append(rows, row(l.kind, name))
			}
			for _, name := range x.there {
				rows = append(rows, row(other.kind, name))
			}
			want := api.Keys{}
			*l.of(&want), *other.of(&want) = x.want, x.beside
			updates(t, l.name+": "+x.what, k, rows, want)
		}
	}
	// A name that was in one list alone is new in another one.
	updates(t, "a switch becomes a router", api.Keys{Switches: []api.Key{key("a", 5), key("b", 1)}}, []api.Row{row(api.RowRouter, "a"), row(api.RowSwitch, "b")},
		api.Keys{Switches: []api.Key{key("b", 1)}, Routers: []api.Key{key("a", 2)}})
}

// names is so many names that rise.
func names(n int) []string {
	var out []string
	for i := range n {
		out = append(out, "n"+strconv.Itoa(100000+i))
	}
	return out
}

// P19.2: all numbers of ports are had, and one name more comes.
func TestUpdateFull(t *testing.T) {
	var ports, routerPorts []api.Row
	for i, name := range names(mostPort) {
		if i%3 == 0 {
			routerPorts = append(routerPorts, row(api.RowRouterPort, name))
		} else {
			ports = append(ports, row(api.RowPort, name))
		}
	}
	rows := append(slices.Clone(ports), routerPorts...)
	k, e := keys.Update(api.Keys{}, rows)
	if e != api.OK || keys.Check(k) != api.OK || len(k.Ports)+len(k.RouterPorts) != mostPort {
		t.Fatalf("%d, %d and %d", e, len(k.Ports), len(k.RouterPorts))
	}
	if last := k.RouterPorts[len(k.RouterPorts)-1].Num; last != mostPort {
		t.Errorf("the last one has %d", last)
	}
	for _, more := range []api.Row{row(api.RowPort, "more"), row(api.RowRouterPort, "more")} {
		for _, from := range []api.Keys{{}, k} {
			if got, e := keys.Update(from, append(slices.Clone(rows), more)); e != api.ErrKey || !same(got, api.Keys{}) {
				t.Errorf("one more: %d", e)
			}
		}
		// Where one goes its number is free: no other one.
		gone := k.Ports[77]
		fewer := slices.DeleteFunc(slices.Clone(rows), func(r api.Row) bool { return r.Name == gone.Name })
		got, e := keys.Update(k, append(fewer, more))
		n, _ := keys.Find(append(got.Ports, got.RouterPorts...), "more")
		if e != api.OK || keys.Check(got) != api.OK || n != gone.Num {
			t.Errorf("one for another: %d, %d, not %d", e, n, gone.Num)
		}
	}
	// The numbers of datapaths are others: of these there are more.
	switches := []api.Row{row(api.RowRouter, "r")}
	for _, name := range names(mostPort + 1) {
		switches = append(switches, row(api.RowSwitch, name))
	}
	k, e = keys.Update(k, append(switches, rows...))
	if n, _ := keys.Find(k.Routers, "r"); e != api.OK || keys.Check(k) != api.OK || n != mostPort+2 {
		t.Errorf("datapaths: %d, %d", e, n)
	}
}

// model is what Update answers of right keys and a few rows, by looking each number up from 1 on.
func model(k api.Keys, rows []api.Row) api.Keys {
	out := api.Keys{}
	all := lists()
	for _, pair := range [][2]list{{all[0], all[1]}, {all[2], all[3]}} {
		had := map[int]int{}
		kept := [2]map[string]int{{}, {}}
		for i, l := range pair {
			for _, r := range rows {
				if n, _ := keys.Find(*l.of(&k), r.Name); r.Kind == l.kind {
					kept[i][r.Name] = n
					had[n] = 1
				}
			}
		}
		for i, l := range pair {
			for _, name := range slices.Sorted(maps.Keys(kept[i])) {
				n := kept[i][name]
				if n == 0 {
					for n = 1; had[n] == 1; n++ {
					}
					had[n] = 1
				}
				*l.of(&out) = append(*l.of(&out), key(name, n))
			}
		}
	}
	return out
}

// P19.2, P19.3: networks that change, as the model has them; names that stay keep their numbers.
func TestUpdateAsModel(t *testing.T) {
	chance := rand.New(rand.NewSource(19))
	for range 200 {
		k := api.Keys{}
		for range 20 {
			var rows []api.Row
			for range chance.Intn(40) {
				rows = append(rows, row(chance.Intn(10), names(12)[chance.Intn(12)]))
			}
			want := model(k, rows)
			updates(t, "a model", k, rows, want)
			for _, l := range lists() {
				for _, x := range *l.of(&k) {
					n, ok := keys.Find(*l.of(&want), x.Name)
					if stays := slices.ContainsFunc(rows, func(r api.Row) bool { return r.Kind == l.kind && r.Name == x.Name }); ok != stays || ok && n != x.Num {
						t.Errorf("%s %s: %d, %v, not %d", l.name, x.Name, n, ok, x.Num)
					}
				}
			}
			k = want
		}
	}
}

// spread is right keys of some names, with small numbers and great ones, in any order.
func spread(chance *rand.Rand) api.Keys {
	k := api.Keys{}
	all := lists()
	for _, pair := range [][2]list{{all[0], all[1]}, {all[2], all[3]}} {
		most := pair[0].most
		nums := append(chance.Perm(12), most, most-1, most-2)
		nums = slices.DeleteFunc(nums, func(n int) bool { return n == 0 })
		chance.Shuffle(len(nums), func(i, j int) { nums[i], nums[j] = nums[j], nums[i] })
		for _, l := range pair {
			for _, name := range names(chance.Intn(7)) {
				*l.of(&k) = append(*l.of(&k), key(name, nums[0]))
				nums = nums[1:]
			}
		}
	}
	return k
}

// P19.2, P19.3: keys that no Update made.
func TestUpdateOfSpreadKeys(t *testing.T) {
	chance := rand.New(rand.NewSource(20))
	for range 2000 {
		k := spread(chance)
		checks(t, "spread", k, api.OK)
		var rows []api.Row
		for range chance.Intn(30) {
			rows = append(rows, row(1+chance.Intn(4), names(8)[chance.Intn(8)]))
		}
		want := model(k, rows)
		updates(t, "spread", k, rows, want)
	}
}

// R3: what is handed in stays as it is, and what is answered shares nothing with it.
func TestApart(t *testing.T) {
	k := some()
	rows := append(rowsOf(k), row(api.RowPort, "new"), row(api.RowSwitch, "new"))
	for _, l := range lists() {
		*l.of(&k) = append(make([]api.Key, 0, 20), *l.of(&k)...)
	}
	keptRows := slices.Clone(rows)
	got, _ := keys.Update(k, rows)
	want, _ := keys.Update(some(), keptRows)
	for i, l := range lists() {
		room := (*l.of(&k))[:20]
		if !slices.Equal(room[len(*l.of(&k)):], make([]api.Key, 20-len(*l.of(&k)))) {
			t.Errorf("%s: the room behind the end: %v", l.name, room)
		}
		answer := *l.of(&got)
		for j := range answer[:cap(answer)] {
			answer[:cap(answer)][j] = key("spoilt", -1)
		}
		for _, other := range lists()[i+1:] {
			if !slices.Equal(*other.of(&got), *other.of(&want)) {
				t.Errorf("%s and %s share", l.name, other.name)
			}
		}
	}
	if !same(k, some()) || !slices.EqualFunc(rows, keptRows, func(a, b api.Row) bool { return a.Kind == b.Kind && a.Name == b.Name }) {
		t.Errorf("%v, %v", k, rows)
	}
	if again, _ := keys.Update(k, rows); !same(again, want) {
		t.Errorf("another time: %v", again)
	}
}
