package nbdb_test

import (
	"math"
	"slices"
	"strings"
	"testing"

	"skein/api"
	"skein/expr"
	"skein/match"
	"skein/nbdb"
	"skein/norm"
)

// texts is matches as texts.
func texts(l [][]api.Term) string {
	var out []string
	for _, m := range l {
		out = append(out, match.Text(m))
	}
	return strings.Join(out, " | ")
}

// P18.3: ports that keys have, have not, have twice.
func TestAclNames(t *testing.T) {
	ports := []string{"a", "b", "c", "s-r", "a"}
	keys := []api.Key{{Name: "x", Num: 99}, {Name: "a", Num: 9}, {Name: "b", Num: 65535}, {Name: "a", Num: 8}, {Name: "s-r", Num: 7}, {Name: "b", Num: 65536}, {Name: "", Num: 5}}
	for text, want := range map[string]string{
		"inport == a":              "inport == 0x9",
		"outport == \"a\"":         "outport == 0x9",
		"inport == b":              "inport == 0xffff",
		"inport == c":              "inport == 0x0",
		"inport == \"s-r\"":        "inport == 0x7",
		"inport == {a, c}":         "inport == 0x0 | inport == 0x9",
		"outport < a":              "outport == 0x0 / 0xfff8 | outport == 0x8",
		"ip4.src == a && 1":        "eth.type == 0x800 && ip4.src == 0x9",
		"1":                        "",
		"arp && ip4":               "",
		"inport == a || 0":         "inport == 0x9",
		"inport == 4 && !(tcp||1)": "",
	} {
		l, e := nbdb.Acl(ports, keys, text)
		if e != api.OK || texts(l) != want {
			t.Errorf("%s: %d, %q, not %q", text, e, texts(l), want)
		}
		if n := strings.Count(want, "|"); want != "" && len(l) != n+1 {
			t.Errorf("%s: %d matches", text, len(l))
		}
	}
	if l, e := nbdb.Acl(ports, keys, "1"); e != api.OK || len(l) != 1 || len(l[0]) != 0 {
		t.Errorf("all: %v, %d", l, e)
	}
	if l, e := nbdb.Acl(ports, keys, "0"); e != api.OK || len(l) != 0 {
		t.Errorf("nothing: %v, %d", l, e)
	}
}

// P18.3: what is refused, and which error is told first.
func TestAclRefuses(t *testing.T) {
	ports := []string{"a", "b", "low", "high"}
	keys := []api.Key{{Name: "a", Num: 1}, {Name: "b", Num: 65536}, {Name: "low", Num: -1}, {Name: "high", Num: math.MaxInt}, {Name: "x", Num: 5}}
	wide := "tp.dst != 5 && tp.src != 5"
	for text, want := range map[string]api.Errno{
		"inport == x": api.ErrType, "inport == nobody": api.ErrType, "inport == b": api.ErrType, "ip4.src == b": api.OK, "inport == low": api.ErrType, "ip4.src == low": api.ErrType,
		"eth.src == high": api.ErrType, "eth.dst == 10.0.0.1": api.ErrType, "": api.ErrExpr, "tcp &&": api.ErrExpr, "tcp) && reg0 == 1": api.ErrExpr, "$": api.ErrLex, "tcp && 01": api.ErrLex,
		strings.Repeat(" ", 4097): api.ErrLong, strings.Repeat("!", 33) + "1": api.ErrLong, wide: api.ErrWide, wide + " && reg0 == 1": api.ErrWide, "reg0 == 1 && " + wide: api.ErrWide,
		"reg0 == 1": api.ErrAcl, "reg0 == nobody": api.ErrType, "reg0 == 1 &&": api.ErrExpr, "0 && ct.state == 1": api.ErrAcl, "1 || datapath == 1": api.ErrAcl, "!(!(reg2 == 0))": api.ErrAcl,
		"reg1 == {1, 2}": api.ErrAcl, "inport == a && outport != a": api.OK, "reg3 == a": api.ErrAcl,
	} {
		l, e := nbdb.Acl(ports, keys, text)
		if e != want || e != api.OK && len(l) != 0 {
			t.Errorf("%.60q: %d, not %d", text, e, want)
		}
	}
}

// P18.3: an expression that Parse takes and Normal refuses, because it is too deep.
func TestAclDeep(t *testing.T) {
	for n, want := range map[int]api.Errno{31: api.OK, 32: api.ErrExpr, 33: api.ErrLong} {
		text := strings.Repeat("0||1&&(", n) + "0||1&&ip4" + strings.Repeat(")", n)
		if _, e, _ := expr.Parse(text, nil); n == 32 && e != api.OK {
			t.Errorf("Parse: %d", e)
		}
		if l, e := nbdb.Acl(nil, nil, text); e != want || (len(l) == 1) != (e == api.OK) {
			t.Errorf("%d deep: %d, %s", n, e, texts(l))
		}
		rule := api.OK
		if want != api.OK {
			rule = api.ErrAcl
		}
		checks(t, "deep", with(acl("s", true, 9, text, 1)), rule)
	}
}

// P18.3: the matches are those of norm, with the numbers of keys; they share nothing, and nothing is changed.
func TestAclMatches(t *testing.T) {
	ports, keys := []string{"a", "b"}, []api.Key{{Name: "a", Num: 3}, {Name: "b", Num: 4}}
	for _, text := range []string{"inport == a && tcp", "outport != a && arp", "ip4.src == 10.0.0.0/8 || tp.dst < 3", "inport > a && outport <= b"} {
		x, _, _ := expr.Parse(text, []api.Name{{Text: "a", Num: 3}, {Text: "b", Num: 4}})
		want, _ := norm.Normal(x)
		l, e := nbdb.Acl(ports, keys, text)
		if e != api.OK || !slices.EqualFunc(l, want, func(a, b []api.Term) bool { return slices.Equal(a, b) }) {
			t.Errorf("%s: %d, %s", text, e, texts(l))
		}
		for i := range l {
			clear(l[i][:cap(l[i])])
		}
		if again, _ := nbdb.Acl(ports, keys, text); texts(again) != texts(want) {
			t.Errorf("%s: %s", text, texts(again))
		}
	}
	if !slices.Equal(ports, []string{"a", "b"}) || !slices.Equal(keys, []api.Key{{Name: "a", Num: 3}, {Name: "b", Num: 4}}) {
		t.Errorf("changed: %v, %v", ports, keys)
	}
	if l, e := nbdb.Acl(nil, nil, "inport == 5"); e != api.OK || texts(l) != "inport == 0x5" {
		t.Errorf("without ports: %s, %d", texts(l), e)
	}
}
