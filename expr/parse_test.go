package expr_test

import (
	"slices"
	"strconv"
	"strings"
	"testing"

	"skein/api"
	"skein/expr"
	"skein/field"
)

// parses asks for the expression of a text.
func parses(t *testing.T, s string, want api.Expr, names ...api.Name) {
	t.Helper()
	if e, f, at := expr.Parse(s, names); !same(e, want) || f != api.OK || at != 0 {
		t.Errorf("%q: %+v, %d, %d, not %s", s, e, f, at, expr.Print(want))
	}
}

// refuses asks for a fault at a place, and nothing beside it.
func refuses(t *testing.T, s string, fault api.Errno, place int, names ...api.Name) {
	t.Helper()
	if e, f, at := expr.Parse(s, names); !same(e, api.Expr{}) || f != fault || at != place {
		t.Errorf("%q: %+v, %d, %d, not %d, %d", s, e, f, at, fault, place)
	}
}

// marked is a text without its first ^, and that one's place.
func marked(s string) (string, int) {
	at := strings.Index(s, "^")
	return s[:at] + s[at+1:], at
}

func proto(number uint64) api.Expr {
	return and(eq(api.EthType, 0x800), eq(api.IpProto, number))
}

// P15.1: the document's examples.
func TestExamples(t *testing.T) {
	parses(t, "ip4.src == 10.0.0.0/8 && !icmp", and(masked(api.IpSrc, api.OpEq, 0x0a000000, 0xff000000), not(proto(1))))
	parses(t, "tp.dst == {80, 443}", or(eq(api.TpDst, 80), eq(api.TpDst, 443)))
	refuses(t, "eth.dst == 10.0.0.1", api.ErrType, 11)
}

// P15.1: 1 and 0, each word of the protocols.
func TestWords(t *testing.T) {
	for s, want := range map[string]api.Expr{
		"1": yes(), "0": no(), "ip4": eq(api.EthType, 0x800), "arp": eq(api.EthType, 0x806), "icmp": proto(1), "udp": proto(17), "tcp": proto(6),
	} {
		parses(t, s, want)
		parses(t, " \t"+s+" # "+s, want)
		parses(t, "("+s+")", want)
		parses(t, "!"+s, not(want))
		parses(t, "! ! "+s, not(not(want)))
		parses(t, s+"&&"+s, and(want, want))
		parses(t, s+"||"+s, or(want, want))
		refuses(t, s+" == 1", api.ErrExpr, len(s)+1)
		refuses(t, s+" "+s, api.ErrExpr, len(s)+1)
		refuses(t, `"`+s+`"`, api.ErrExpr, 0)
		refuses(t, s+"!", api.ErrExpr, len(s))
	}
	for _, s := range []string{"2", "10", "0x1", "0x0", "true", "ip", "ip6", "IP4", "sctp", "icmp4", "10.0.0.1", "02:00:00:00:00:01", `"ip.ttl"`, `""`} {
		refuses(t, s, api.ErrExpr, 0)
		refuses(t, s+" == 1", api.ErrExpr, 0)
		refuses(t, "ip4 && "+s, api.ErrExpr, 7)
	}
}

// P15.1: each field with each operator.
func TestComparisons(t *testing.T) {
	for f := 1; f <= api.Fields; f++ {
		for i, op := range []string{"==", "!=", "<", "<=", ">", ">="} {
			parses(t, field.Name(f)+op+"5", is(f, api.OpEq+i, 5))
			parses(t, field.Name(f)+" "+op+" 0x5", is(f, api.OpEq+i, 5))
			parses(t, "!"+field.Name(f)+op+"0", not(is(f, api.OpEq+i, 0)))
		}
	}
	parses(t, "ip4.src >= 10.0.0.1", is(api.IpSrc, api.OpGe, 0x0a000001))
	parses(t, "eth.src < ff:ff:ff:ff:ff:ff", is(api.EthSrc, api.OpLt, api.MaxMac))
	parses(t, "ip.ttl <= x", is(api.IpTtl, api.OpLe, 9), api.Name{Text: "x", Num: 9})
	for _, op := range []string{"&&", "||", "!", "(", ")", "{", "}", ",", "/", "..", `"=="`, "eq", "5", "10.0.0.1"} {
		refuses(t, "ip.ttl "+op+" 5", api.ErrExpr, 7)
	}
}

// P15.1: what binds closer, and which traces parentheses leave.
func TestStructure(t *testing.T) {
	a, b, c := eq(api.Reg0, 1), eq(api.Reg1, 2), eq(api.Reg2, 3)
	for s, want := range map[string]api.Expr{
		"a":                    a,
		"((a))":                a,
		"a && b":               and(a, b),
		"a && b && c":          and(a, b, c),
		"(a && b) && c":        and(and(a, b), c),
		"a && (b && c)":        and(a, and(b, c)),
		"(a && b && c)":        and(a, b, c),
		"a || b || c":          or(a, b, c),
		"(a || b) || c":        or(or(a, b), c),
		"a || (b || c)":        or(a, or(b, c)),
		"a && b || c":          or(and(a, b), c),
		"a || b && c":          or(a, and(b, c)),
		"a && (b || c)":        and(a, or(b, c)),
		"(a || b) && c":        and(or(a, b), c),
		"a && b || b && c":     or(and(a, b), and(b, c)),
		"!a && b":              and(not(a), b),
		"!(a && b)":            not(and(a, b)),
		"!(a || b) && c":       and(not(or(a, b)), c),
		"!a || !b":             or(not(a), not(b)),
		"!!a":                  not(not(a)),
		"!(!a)":                not(not(a)),
		"!((a))":               not(a),
		"(!(a))":               not(a),
		"a && icmp":            and(a, proto(1)),
		"tcp && udp":           and(proto(6), proto(17)),
		"icmp || (a)":          or(proto(1), a),
		"(a||b)&&(b||c)&&!(a)": and(or(a, b), or(b, c), not(a)),
	} {
		// The words of protocols stay as they are.
		text := strings.NewReplacer("icmp", "icmp", "tcp", "tcp", "a", "reg0 == 1", "b", "reg1==2", "c", "reg2 == 3").Replace(s)
		parses(t, text, want)
	}
}

// P15.1: sets of one, two and more constants, of all kinds, with masks; of none; with other operators.
func TestSets(t *testing.T) {
	ne := func(f int, v uint64) api.Expr { return is(f, api.OpNe, v) }
	web := api.Name{Text: "web", Num: 7}
	parses(t, "tp.dst == {80}", eq(api.TpDst, 80))
	parses(t, "tp.dst != {80}", ne(api.TpDst, 80))
	parses(t, "tp.dst == {80,443}", or(eq(api.TpDst, 80), eq(api.TpDst, 443)))
	parses(t, "tp.dst != { 80 , 443 }", and(ne(api.TpDst, 80), ne(api.TpDst, 443)))
	parses(t, "tp.dst == {3, 2, 3}", or(eq(api.TpDst, 3), eq(api.TpDst, 2), eq(api.TpDst, 3)))
	parses(t, "!tp.dst == {1, 2}", not(or(eq(api.TpDst, 1), eq(api.TpDst, 2))))
	parses(t, "tp.dst == {1, 2} && tp.src != {3, 4}", and(or(eq(api.TpDst, 1), eq(api.TpDst, 2)), and(ne(api.TpSrc, 3), ne(api.TpSrc, 4))))
	parses(t, "tp.dst == {1, 2} || tp.dst == {3}", or(or(eq(api.TpDst, 1), eq(api.TpDst, 2)), eq(api.TpDst, 3)))
	parses(t, `outport == {web, "web", 8}`, or(eq(api.OutPort, 7), eq(api.OutPort, 7), eq(api.OutPort, 8)), web)
	parses(t, "eth.src != {02:00:00:00:00:01, 5}", and(ne(api.EthSrc, 0x020000000001), ne(api.EthSrc, 5)))
	parses(t, "ip4.dst == {10.1.2.3/8, 1.2.3.4, 5.6.7.8/255.0.0.255, 6/3}", or(masked(api.IpDst, api.OpEq, 0x0a000000, 0xff000000), eq(api.IpDst, 0x01020304),
		masked(api.IpDst, api.OpEq, 0x05000008, 0xff0000ff), masked(api.IpDst, api.OpEq, 2, 3)))
	parses(t, "ip4.dst != {10.0.0.0/8}", masked(api.IpDst, api.OpNe, 0x0a000000, 0xff000000))
	for _, s := range []string{
		"tp.dst == {^}", "tp.dst != {^}", "tp.dst == {^,80}", "tp.dst == {80,^}", "tp.dst == {80,^,81}", "tp.dst == {80 ^81}", "tp.dst == {80^", "tp.dst == {^",
		"tp.dst == {80,^", "tp.dst == {^{80}}", "tp.dst == {80, ^{81}}", "tp.dst == {^(80)}", "tp.dst == {80}^}", "tp.dst == {80^)", "tp.dst == {80}^/3", "tp.dst == {80 ^&& 1}",
		"tp.dst < ^{80}", "tp.dst <= ^{80, 81}", "tp.dst > ^{80}", "tp.dst >= ^{80}", "tp.dst < ^{}", "tp.dst == ^}", "tp.dst == ^,", "tp.dst == 80^, 81", "^{80}", "tp.dst ^{80}",
		"eth.src == {02:00:00:00:00:01^/1}", "tp.dst == {80^..81}",
	} {
		text, at := marked(s)
		refuses(t, text, api.ErrExpr, at)
		refuses(t, "!ip4 && "+text, api.ErrExpr, 8+at)
	}
	refuses(t, "ip.ttl == {1, 256, 257}", api.ErrType, 14)
	refuses(t, "ip.ttl != {1, nobody}", api.ErrType, 14)
}

// P15.1: a / behind an address: how many bits count, or a mask.
func TestPrefixes(t *testing.T) {
	for n := 1; n <= 32; n++ {
		mask := uint64(1<<32 - 1<<(32-n))
		parses(t, "ip4.src == 170.187.204.221/"+strconv.Itoa(n), masked(api.IpSrc, api.OpEq, 0xaabbccdd&mask, mask))
		parses(t, "arp.tpa != 170.187.204.221 / "+strconv.Itoa(n), masked(api.ArpTpa, api.OpNe, 0xaabbccdd&mask, mask))
	}
	parses(t, "ip4.src == 1.2.3.4/0x8", masked(api.IpSrc, api.OpEq, 0x01000000, 0xff000000))
	parses(t, "ip4.src == 1.2.3.4/255.255.0.0", masked(api.IpSrc, api.OpEq, 0x01020000, 0xffff0000))
	parses(t, "ip4.src == 1.2.3.4/255.255.255.255", eq(api.IpSrc, 0x01020304))
	parses(t, "ip4.src != 1.2.3.4/0.0.0.1", masked(api.IpSrc, api.OpNe, 0, 1))
	parses(t, "ip4.src == 1.2.3.4/10.0.0.1", masked(api.IpSrc, api.OpEq, 0, 0x0a000001))
	for _, s := range []string{
		"ip4.src == 1.2.3.4/^33", "ip4.src == 1.2.3.4/^255", "ip4.src == 1.2.3.4/^0xffffffffffffffff", "ip4.src == 1.2.3.4/^0xff000000", "ip4.src == 1.2.3.4/^x", `ip4.src == 1.2.3.4/^"x"`,
		"ip4.src == 1.2.3.4/^", "ip4.src == 1.2.3.4/^&& 1", "ip4.src == 1.2.3.4/^/8", "ip4.src == 1.2.3.4/8^/8", "ip4.src == 1.2.3.4/^02:00:00:00:00:01",
		"ip4.src < 1.2.3.4^/8", "ip4.src <= 1.2.3.4^/8", "ip4.src > 1.2.3.4^/8", "ip4.src >= 1.2.3.4^/8", "ip4.src == ^/8", "ip4.src^/8 == 1",
	} {
		text, at := marked(s)
		refuses(t, text, api.ErrExpr, at, api.Name{Text: "x", Num: 8})
	}
	for _, s := range []string{"ip4.src == 1.2.3.4/^0", "ip4.src != 1.2.3.4/^0x0", "ip4.src == 1.2.3.4/^0.0.0.0", "arp.spa != 0.0.0.0/^0", "reg0 == ^1.2.3.4/8", "reg0 == ^1.2.3.4/0"} {
		text, at := marked(s)
		refuses(t, text, api.ErrType, at)
	}
}

// P15.1: a / behind a number, and behind what may have none.
func TestMasks(t *testing.T) {
	parses(t, "ip.ttl == 5/7", masked(api.IpTtl, api.OpEq, 5, 7))
	parses(t, "ip.ttl != 0xff / 0xf", masked(api.IpTtl, api.OpNe, 15, 15))
	parses(t, "ip.ttl == 5/255", eq(api.IpTtl, 5))
	parses(t, "ip.ttl == 5/2", masked(api.IpTtl, api.OpEq, 0, 2))
	parses(t, "ip4.src == 0x0a010203/0xff000000", masked(api.IpSrc, api.OpEq, 0x0a000000, 0xff000000))
	parses(t, "ip4.src == 0xffffffff/8", masked(api.IpSrc, api.OpEq, 8, 8))
	parses(t, "eth.dst == 0x010000000000/0x010000000000", masked(api.EthDst, api.OpEq, 1<<40, 1<<40))
	names := []api.Name{{Text: "x", Num: 5}}
	for _, s := range []string{
		"ip.ttl == 5/^10.0.0.1", "ip4.src == 5/^255.0.0.0", "ip.ttl == 5/^x", `ip.ttl == 5/^"x"`, "ip.ttl == 5/^", "ip.ttl == 5/^)", "ip.ttl == 5/7^/7", "ip.ttl == 5/^{7}", "ip.ttl == 5/^02:00:00:00:00:01",
		"ip.ttl < 5^/7", "ip.ttl <= 5^/7", "ip.ttl > 5^/7", "ip.ttl >= 5^/7", "ip.ttl == x^/7", `ip.ttl == "x"^/7`, "eth.dst == 02:00:00:00:00:01^/5", "eth.dst == 02:00:00:00:00:01^/ff:00:00:00:00:00", "1^/1",
	} {
		text, at := marked(s)
		refuses(t, text, api.ErrExpr, at, names...)
	}
	for _, s := range []string{"ip.ttl == 5/^0", "ip.ttl != 5/^0x0", "ip.ttl == 0/^0", "ip.ttl == 5/^256", "ip.ttl == 5/^0x1ff", "ip.ttl == ^256/255", "ip.ttl == ^256/0", "ip.ttl == ^0x1ff/1", "reg0 == 5/^0xffffffffffffffff"} {
		text, at := marked(s)
		refuses(t, text, api.ErrType, at, names...)
	}
}

// P15.1: constants of each kind beside each field.
func TestTypes(t *testing.T) {
	addresses := []int{api.ArpSpa, api.ArpTpa, api.IpSrc, api.IpDst}
	x := api.Name{Text: "x", Num: 200}
	for f := 1; f <= api.Fields; f++ {
		ahead := field.Name(f) + " == "
		parses(t, ahead+"200", eq(f, 200))
		parses(t, ahead+"x", eq(f, 200), x)
		parses(t, ahead+`"x"`, eq(f, 200), x)
		refuses(t, ahead+"y", api.ErrType, len(ahead), x)
		if widths[f] == 48 {
			parses(t, ahead+"02:00:00:00:00:01", eq(f, 0x020000000001))
		} else {
			refuses(t, ahead+"02:00:00:00:00:01", api.ErrType, len(ahead))
			refuses(t, ahead+"00:00:00:00:00:00", api.ErrType, len(ahead))
		}
		if slices.Contains(addresses, f) {
			parses(t, ahead+"10.0.0.1", eq(f, 0x0a000001))
		} else {
			refuses(t, ahead+"10.0.0.1", api.ErrType, len(ahead))
			refuses(t, ahead+"0.0.0.0", api.ErrType, len(ahead))
			refuses(t, ahead+"10.0.0.1/8", api.ErrType, len(ahead))
		}
	}
}

// P15.1: numbers, names and masks of all of a field's bits, and of one more.
func TestFits(t *testing.T) {
	for f := 1; f <= api.Fields; f++ {
		for i, op := range []string{"==", "!=", "<", "<=", ">", ">="} {
			ahead := field.Name(f) + " " + op + " "
			last, beyond := strconv.FormatUint(full(f), 10), strconv.FormatUint(full(f)+1, 10)
			parses(t, ahead+last, is(f, api.OpEq+i, full(f)))
			parses(t, ahead+"x", is(f, api.OpEq+i, full(f)), api.Name{Text: "x", Num: full(f)})
			for _, s := range []string{beyond, "0xffffffffffffffff", "18446744073709551615"} {
				refuses(t, ahead+s, api.ErrType, len(ahead))
				refuses(t, "1 || ("+ahead+s+")", api.ErrType, 6+len(ahead))
			}
			refuses(t, ahead+"x", api.ErrType, len(ahead), api.Name{Text: "x", Num: full(f) + 1})
			refuses(t, ahead+"x", api.ErrType, len(ahead), api.Name{Text: "x", Num: 1 << 63})
			if op == "==" || op == "!=" {
				parses(t, ahead+"1/"+last, is(f, api.OpEq+i, 1))
				refuses(t, ahead+"1/"+beyond, api.ErrType, len(ahead)+2)
			}
		}
	}
}

// P15.1: names: there, there twice, nobody's, such as only texts can be.
func TestNames(t *testing.T) {
	names := []api.Name{{Text: "x", Num: 1}, {Text: "p-1", Num: 2}, {Text: "x", Num: 3}, {Text: "", Num: 4}, {Text: "ip4", Num: 5}, {Text: "80", Num: 6}, {Text: "ip.ttl", Num: 7}, {Text: "big", Num: 1 << 40}, {Text: "big", Num: 8}}
	for s, num := range map[string]uint64{"x": 1, `"x"`: 1, `"p-1"`: 2, `""`: 4, "ip4": 5, `"ip4"`: 5, `"80"`: 6, "80": 80, "ip.ttl": 7} {
		parses(t, "inport == "+s, eq(api.InPort, num), names...)
		parses(t, "inport < "+s, is(api.InPort, api.OpLt, num), names...)
	}
	for _, s := range []string{"y", `"y"`, "X", `" x"`, `"p-2"`, "tcp", "inport", "big", `"big"`, "x.", "_"} {
		refuses(t, "inport == "+s, api.ErrType, 10, names...)
		refuses(t, "inport != {1, "+s+"}", api.ErrType, 14, names...)
	}
	refuses(t, "inport == x", api.ErrType, 10)
	refuses(t, "x == 1", api.ErrExpr, 0, names...)
	refuses(t, "x", api.ErrExpr, 0, names...)
	refuses(t, "inport == p-1", api.ErrLex, 11, names...)
}

// P15.1: what the tokens' reader refuses, ahead of all else.
func TestLex(t *testing.T) {
	for _, s := range []string{"ip4 ^& arp", "ip4 && ^01", "^=", "ip.ttl ^= 1", `inport == ^"p`, "&& || nobody ^\\", "ip.ttl == 256 && ^1b", strings.Repeat("(", 40) + "^$"} {
		text, at := marked(s)
		refuses(t, text, api.ErrLex, at)
	}
	refuses(t, strings.Repeat(" ", 4097), api.ErrLong, 0)
	refuses(t, "1"+strings.Repeat(" ", 4096), api.ErrLong, 0)
	refuses(t, strings.Repeat(" ", 4096), api.ErrExpr, 4096)
	parses(t, strings.Repeat(" ", 4095)+"1", yes())
}

// P15.1: a token that may not stand there, at a text's start, within it and at its end, in every kind of part.
func TestFirstToken(t *testing.T) {
	for _, s := range []string{
		"^", " ^", "# no\n^", "^&& 1", "^|| 1", "^)", "^}", "^,", "^/", "^..", "^==", "^<", "^80", "^nobody", `^"web"`, "^10.0.0.1",
		"1 &&^", "1 && ^&& 1", "1 && ^|| 1", "1 && ^)", "1 ||^", "1 || ^|| 1", "1 ^1", "1 ^0", "1 ^ip4", "1 ^ip.ttl == 1", "1 ^!1", "1 ^(1)", "1 ^.. 2", "1 ^, 1", "1 ^)",
		"!^", "!^)", "!^&& 1", "! ^== 1", "^!= 1", "!!^", "!1 ^1", "!^nobody", "1 ^! 1", "1^!",
		"(^", "(^)", "(^&& 1)", "(1^", "(1 ^1)", "(1)^)", "((1)^", "(1)^(1)", "(1 &&^)", "(1 ||^", "(^}", "(1^}", "(1^,1)", "(^nobody", "!(^)", "!(1)^)", "(1) ^1",
		"ip.ttl^", "ip.ttl ^5", "ip.ttl ^&& 1", "ip.ttl^)", "ip.ttl ^! 1", "(ip.ttl^)", "ip.ttl ==^", "ip.ttl == ^== 5", "ip.ttl == ^)", "ip.ttl == ^&& 1", "ip.ttl == ^!5", "ip.ttl == ^(5)", "ip.ttl == 5 ^5", "ip.ttl == 5 ^== 5",
		"ip.ttl <^", "ip.ttl < ^<= 5", "ip.ttl ^ip.ttl", "^5 == ip.ttl", "1 ^== 1", "ip4 ^== 1", "ip4.src == 10.0.0.1 ^10.0.0.2", "ip4.src == 10.0.0.1 ^.. 10.0.0.2",
		"1 && (0 || (ip4 && ip.ttl == 3) ^arp)", "1 && (0 || (ip4 && ip.ttl == 3) || arp^", "1 && (0 || (ip4 && ip.ttl == 3) || arp) && ^", "ip4 && tp.dst == {80, 443} ^{80}",
		`1 ^"&&" 1`, `1 ^"||" 1`, `^"!" 1`, `^"(" 1)`, `(1 ^")"`, `ip.ttl ^"==" 5`, `ip.ttl == "{" ^5}`, `ip.ttl == {5 ^"," 6}`, `ip.ttl == {5 ^"}"`, `ip.ttl == 5 ^"/" 7`, // no operators, but texts
	} {
		text, at := marked(s)
		refuses(t, text, api.ErrExpr, at)
	}
}

// P15.1: 32 deep, and one more: the token behind the 33rd ! or ( lies too deep.
func TestDeep(t *testing.T) {
	bang := func(n int) string { return strings.Repeat("!", n) }
	open := func(n int) string { return strings.Repeat("(", n) }
	shut := func(n int) string { return strings.Repeat(")", n) }
	parses(t, bang(32)+"1", times(32, yes()))
	parses(t, open(32)+"ip4"+shut(32), eq(api.EthType, 0x800))
	parses(t, strings.Repeat("!(", 16)+"1"+shut(16), times(16, yes()))
	parses(t, bang(32)+"1 && "+bang(32)+"0 || "+open(32)+"1"+shut(32), or(and(times(32, yes()), times(32, no())), yes()))
	parses(t, open(31)+"!1 && !0 || ip.ttl == 1"+shut(31), or(and(not(yes()), not(no())), eq(api.IpTtl, 1)))
	refuses(t, bang(33)+"1", api.ErrLong, 33)
	refuses(t, open(33)+"1"+shut(33), api.ErrLong, 33)
	refuses(t, open(33)+" ip.ttl == 5"+shut(33), api.ErrLong, 34)
	refuses(t, strings.Repeat("! ", 33)+"1", api.ErrLong, 66)
	refuses(t, strings.Repeat("!(", 16)+"!1"+shut(16), api.ErrLong, 33)
	refuses(t, bang(34)+"1", api.ErrLong, 33)
	refuses(t, open(1000)+"1"+shut(1000), api.ErrLong, 33)
	refuses(t, open(2000)+"1"+shut(2000), api.ErrLong, 33)
	refuses(t, bang(4095)+"1", api.ErrLong, 33)
	refuses(t, "1 && "+bang(33)+"1 && "+bang(40)+"1", api.ErrLong, 38)
	refuses(t, bang(32)+"(1)", api.ErrLong, 33)
	refuses(t, open(32)+"1 && !1"+shut(32), api.ErrLong, 38)
	refuses(t, open(32)+"1 && !1 && (1)"+shut(32), api.ErrLong, 38)
	parses(t, open(32)+"1"+shut(32)+" && "+open(32)+"1"+shut(32)+" && !"+open(31)+"1"+shut(31), and(yes(), yes(), not(yes())))
}

// R2: of several faults the one that the chapter names first, wherever it stands; of one kind the first one.
func TestFirstFault(t *testing.T) {
	deep := strings.Repeat("!", 33) + "1"
	refuses(t, "ip.ttl == 256 && ip.ttl == 257", api.ErrType, 10)
	refuses(t, "ip.ttl == nobody && ip.ttl == 257", api.ErrType, 10)
	refuses(t, "ip.ttl == 256/0", api.ErrType, 10)
	refuses(t, "ip.ttl == 256 && &&", api.ErrExpr, 17)
	refuses(t, "ip.ttl == 256 && nobody", api.ErrExpr, 17)
	refuses(t, "eth.dst == 10.0.0.1/33", api.ErrExpr, 20)
	refuses(t, deep+" && ip.ttl == 256", api.ErrType, 48)
	refuses(t, "ip.ttl == 256 && "+deep, api.ErrType, 10)
	refuses(t, deep+" && "+deep+" 1", api.ErrExpr, 73)
	refuses(t, strings.Repeat("(", 33), api.ErrExpr, 33)
	refuses(t, strings.Repeat("(", 33)+")", api.ErrExpr, 33)
	refuses(t, strings.Repeat("(", 4096), api.ErrExpr, 4096)
	refuses(t, strings.Repeat("!", 4096), api.ErrExpr, 4096)
	refuses(t, "nobody && &&", api.ErrExpr, 0)
	refuses(t, "1 1 && nobody", api.ErrExpr, 2)
}

// R3: names are as they were, answers share nothing.
func TestApart(t *testing.T) {
	names := []api.Name{{Text: "x", Num: 1}, {Text: "y", Num: 2}, {Text: "z", Num: 3}}
	kept := slices.Clone(names)
	const text = "tcp && tp.dst == {x, 2} || !(udp)"
	a, _, _ := expr.Parse(text, names[:1])
	b, _, _ := expr.Parse(text, names[:1])
	c := clone(b)
	wipe(a)
	if !same(b, c) || !slices.Equal(names, kept) {
		t.Errorf("%+v, %v", b, names)
	}
	wipe(expr.Deny(b))
	if !same(b, c) || expr.Print(b) != expr.Print(c) || !expr.Holds(b, ping()) {
		t.Errorf("%+v", b)
	}
	refuses(t, "tp.dst == y", api.ErrType, 10, names[:1]...)
}
