package match_test

import (
	"math"
	"math/rand"
	"slices"
	"strconv"
	"testing"

	"skein/api"
	"skein/match"
)

// widths is how many bits each field has, as the document's table says.
var widths = [api.Fields + 1]int{
	0, 48, 48, 16, 17, 16, 48, 32, 48, 32, 32, 32, 8, 8, 8, 16, 8, 8, 16, 16, 12, 8, 24, 16, 16, 32, 32, 32, 32,
}

// The numbers that are no field.
var noFields = []int{0, -1, 29, 30, 64, 256 + 1, 1<<32 + 1, -28, math.MinInt, math.MaxInt}

// full is the mask of all bits of a field.
func full(f int) uint64 {
	return 1<<widths[f] - 1
}

func term(f int, value, mask uint64) api.Term {
	return api.Term{Field: f, Value: value, Mask: mask}
}

// is is the term of a field all of whose bits are v's.
func is(f int, v uint64) api.Term {
	return term(f, v, full(f))
}

func list(l ...api.Term) []api.Term {
	return l
}

// wrongs is lists that are not in form, by what is wrong with them.
func wrongs() map[string][]api.Term {
	w := map[string][]api.Term{
		"one field twice":               list(is(api.IpSrc, 1), is(api.IpSrc, 1)),
		"one field twice, other masks":  list(term(api.IpSrc, 1, 1), term(api.IpSrc, 2, 2)),
		"one field twice, at the end":   list(is(api.EthDst, 1), is(api.IpSrc, 1), is(api.IpSrc, 1)),
		"falling fields":                list(is(api.IpDst, 1), is(api.IpSrc, 1)),
		"falling fields, at the end":    list(is(api.EthDst, 1), is(api.IpDst, 1), is(api.IpSrc, 1)),
		"a Mask of 0":                   list(term(api.IpSrc, 0, 0)),
		"a Mask of 0, a Value":          list(term(api.IpSrc, 1, 0)),
		"a Mask of 0, the second":       list(is(api.IpSrc, 1), term(api.IpDst, 0, 0)),
		"a Value outside of its Mask":   list(term(api.IpSrc, 3, 1)),
		"a Value above its Mask":        list(term(api.IpSrc, 0x100, 0xff)),
		"a Value beyond the field":      list(term(api.IpTtl, 0x100, 0xff)),
		"a Value outside, the last one": list(is(api.EthDst, 1), is(api.IpSrc, 1), term(api.Reg3, 2, 1)),
	}
	for _, f := range noFields {
		w["no field "+strconv.Itoa(f)] = list(term(f, 1, 1))
		w["no field and no mask "+strconv.Itoa(f)] = list(term(f, 0, 0))
	}
	w["no field behind one"] = list(is(api.Reg3, 1), term(29, 1, 1))
	w["no field ahead of one"] = list(term(0, 1, 1), is(api.EthDst, 1))
	for f := 1; f <= api.Fields; f++ {
		name := strconv.Itoa(f)
		w["a bit beyond "+name] = list(term(f, 0, full(f)+1))
		w["all bits and one beyond "+name] = list(term(f, 1, 2*full(f)+1))
		w["the highest bit of 64 of "+name] = list(term(f, 1<<63, 1<<63))
		w["64 bits of "+name] = list(term(f, 0, math.MaxUint64))
	}
	return w
}

// rights is lists that are in form.
func rights() [][]api.Term {
	l := [][]api.Term{nil, {}, everyField()}
	for f := 1; f <= api.Fields; f++ {
		top := full(f)/2 + 1
		l = append(l, list(is(f, 0)), list(is(f, full(f))), list(term(f, 0, 1)), list(term(f, 1, 1)), list(term(f, top, top)), list(term(f, 1, top|1)))
	}
	return append(l, list(is(1, 1), is(2, 0), is(28, 5)), list(term(10, 0x0a000000, 0xff000000), is(19, 80)))
}

// everyField is a term of each field.
func everyField() []api.Term {
	var l []api.Term
	for f := 1; f <= api.Fields; f++ {
		l = append(l, is(f, 1))
	}
	return l
}

// P9.1
func TestCheck(t *testing.T) {
	for _, l := range rights() {
		if e := match.Check(l); e != api.OK {
			t.Errorf("%#v: %d", l, e)
		}
	}
	for what, l := range wrongs() {
		if e := match.Check(l); e != api.ErrMatch {
			t.Errorf("%s: %d", what, e)
		}
	}
}

// udp, tcp, ping, arp, other are States of packets as frames say them.
func udp() api.State {
	s := api.State{Ct: api.CtEst | api.CtNat, Dp: 7, In: 3, Out: 4, Regs: [4]uint32{1, 2, 0xffffffff, 0}}
	s.P = api.Packet{
		Eth:  api.Eth{Dst: 0x020000000001, Src: 0x020000000002, Type: api.TypeIp, Tagged: true, Tag: 9},
		IsIp: true,
		Ip:   api.Ip{Src: 0x0a000001, Dst: 0x0a000002, Proto: api.ProtoUdp, Ttl: 64},
		L4:   api.L4{Kind: api.KindUdp, Sport: 68, Dport: 67},
	}
	return s
}

func tcp() api.State {
	s := udp()
	s.P.Ip.Proto = api.ProtoTcp
	s.P.L4 = api.L4{Kind: api.KindTcp, Sport: 1234, Dport: 80, Flags: 0x12}
	return s
}

func ping() api.State {
	s := udp()
	s.P.Ip.Proto = api.ProtoIcmp
	s.P.L4 = api.L4{Kind: api.KindIcmp, Type: 8}
	return s
}

func fragment() api.State {
	s := udp()
	s.P.Ip.Frag = 7
	s.P.L4 = api.L4{}
	return s
}

func arp() api.State {
	return api.State{P: api.Packet{
		Eth:   api.Eth{Dst: api.MaxMac, Src: 2, Type: api.TypeArp},
		IsArp: true,
		Arp:   api.Arp{Op: 1, Sha: 2, Spa: 3, Tpa: 4},
	}}
}

func other() api.State {
	return api.State{P: api.Packet{Eth: api.Eth{Dst: 1, Src: 2, Type: 0x86dd}, Body: "body"}}
}

func states() []api.State {
	return []api.State{udp(), tcp(), ping(), fragment(), arp(), other(), {}}
}

// P9.1: a State satisfies all terms, or not the match.
func TestSatisfies(t *testing.T) {
	for _, c := range []struct {
		what string
		s    api.State
		l    []api.Term
		want bool
	}{
		{"no terms", other(), nil, true},
		{"one", udp(), list(is(api.IpSrc, 0x0a000001)), true},
		{"another value", udp(), list(is(api.IpSrc, 0x0a000002)), false},
		{"under a mask", udp(), list(term(api.IpSrc, 0x0a000000, 0xff000000)), true},
		{"another value under a mask", udp(), list(term(api.IpSrc, 0x0b000000, 0xff000000)), false},
		{"a bit of many", udp(), list(term(api.CtState, api.CtEst, api.CtEst)), true},
		{"a bit that is not there", udp(), list(term(api.CtState, 0, api.CtReply)), true},
		{"a bit that should not be there", udp(), list(term(api.CtState, 0, api.CtNat)), false},
		{"two", tcp(), list(is(api.EthType, 0x0800), is(api.TpDst, 80)), true},
		{"the first one is not so", tcp(), list(is(api.EthType, 0x0801), is(api.TpDst, 80)), false},
		{"the last one is not so", tcp(), list(is(api.EthType, 0x0800), is(api.TpDst, 81)), false},
		{"a tag", udp(), list(is(api.VlanTag, 65536+9)), true},
		{"no tag", arp(), list(is(api.VlanTag, 0)), true},
		{"all of the State's own", udp(), list(is(21, 10), is(22, 7), is(23, 3), is(24, 4), is(25, 1), is(26, 2), is(27, 0xffffffff), is(28, 0)), true},
		{"a field that ARP has", arp(), list(is(api.ArpOp, 1)), true},
		{"ARP's, of IPv4", udp(), list(is(api.ArpOp, 0)), false},
		{"IPv4's, of ARP", arp(), list(is(api.IpSrc, 0)), false},
		{"IPv4's, of another one", other(), list(term(api.IpTtl, 0, 1)), false},
		{"ICMP's", ping(), list(is(api.IcmpType, 8), is(api.IcmpCode, 0)), true},
		{"ICMP's, of UDP", udp(), list(is(api.IcmpCode, 0)), false},
		{"UDP's, of a fragment", fragment(), list(is(api.TpDst, 0)), false},
		{"TCP's, of UDP", udp(), list(is(api.TcpFlags, 0)), false},
		{"TCP's", tcp(), list(term(api.TcpFlags, 2, 2)), true},
		{"a field that it has not, behind one that it has", arp(), list(is(api.ArpOp, 1), is(api.IpSrc, 0)), false},
		{"no bits of a field that it has not", arp(), list(term(api.IpSrc, 0, 0)), false},
		{"no bits of a field that it has", udp(), list(term(api.IpSrc, 0, 0)), true},
		{"one field twice", udp(), list(is(api.IpTtl, 64), is(api.IpTtl, 64)), true},
		{"one field twice, unlike", udp(), list(is(api.IpTtl, 64), is(api.IpTtl, 65)), false},
		{"one field twice, unlike, the other way", udp(), list(is(api.IpTtl, 65), is(api.IpTtl, 64)), false},
		{"falling fields", tcp(), list(is(api.TpDst, 80), is(api.EthType, 0x0800)), true},
		{"falling fields, unlike", tcp(), list(is(api.TpDst, 80), is(api.EthType, 0x0806)), false},
		{"a value outside of its mask", udp(), list(term(api.IpTtl, 0x43, 0xfc)), true},
		{"bits beyond the field's", udp(), list(term(api.IpTtl, 64, math.MaxUint64)), true},
		{"a bit beyond the field's that is wanted", udp(), list(term(api.IpTtl, 64+256, math.MaxUint64)), false},
	} {
		if ok := match.Satisfies(c.s, c.l); ok != c.want {
			t.Errorf("%s: %v", c.what, ok)
		}
	}
	for _, f := range noFields {
		if match.Satisfies(udp(), list(term(f, 0, 0))) || match.Satisfies(udp(), list(is(1, 0x020000000001), term(f, 0, 1))) {
			t.Errorf("no field %d", f)
		}
	}
}

// P9.2
func TestAnd(t *testing.T) {
	net, host := term(api.IpSrc, 0x0a000000, 0xff000000), is(api.IpSrc, 0x0a000001)
	for _, c := range []struct {
		what string
		a, b []api.Term
		want []api.Term
		ok   bool
	}{
		{"none", nil, nil, nil, true},
		{"the document's example", list(net), list(host), list(host), true},
		{"one and none", list(net), nil, list(net), true},
		{"the same", list(net, is(19, 80)), list(net, is(19, 80)), list(net, is(19, 80)), true},
		{"unlike fields", list(is(1, 1), is(12, 6), is(28, 3)), list(is(2, 2), is(19, 80)), list(is(1, 1), is(2, 2), is(12, 6), is(19, 80), is(28, 3)), true},
		{"one behind the other", list(is(1, 1), is(2, 2)), list(is(3, 3), is(25, 4)), list(is(1, 1), is(2, 2), is(3, 3), is(25, 4)), true},
		{"bits that only one mask has", list(term(25, 0x10, 0xf0)), list(term(25, 0x2, 0xf)), list(term(25, 0x12, 0xff)), true},
		{"bits that both have, and others", list(term(25, 0x15, 0xff)), list(term(25, 0x250, 0xff0)), nil, false},
		{"bits of both that agree, and others", list(term(25, 0x55, 0xff)), list(term(25, 0x250, 0xff0)), list(term(25, 0x255, 0xfff)), true},
		{"other values of bits that only one has", list(term(25, 1, 1)), list(term(25, 0, 2)), list(term(25, 1, 3)), true},
		{"other values of a bit", list(term(25, 1, 1)), list(term(25, 0, 1)), nil, false},
		{"other values of one bit of many", list(is(25, 0xffffffff)), list(is(25, 0xfffeffff)), nil, false},
		{"other values of the highest bit", list(is(1, 1<<47)), list(is(1, 0)), nil, false},
		{"the second field", list(is(1, 1), is(12, 6)), list(is(1, 1), is(12, 17)), nil, false},
		{"the last field, behind others of one's own", list(is(1, 1), is(28, 6)), list(is(2, 1), is(13, 9), is(28, 7)), nil, false},
		{"fields that no packet has together", list(is(api.ArpOp, 1)), list(is(api.IpTtl, 1)), list(is(api.ArpOp, 1), is(api.IpTtl, 1)), true},
	} {
		for range 2 {
			l, ok, e := match.And(c.a, c.b)
			if !slices.Equal(l, c.want) || ok != c.ok || e != api.OK {
				t.Errorf("%s: %#v, %v, %d", c.what, l, ok, e)
			}
			if match.Meet(c.a, c.b) != c.ok {
				t.Errorf("%s: Meet", c.what)
			}
			c.a, c.b = c.b, c.a
		}
	}
}

// P9.2, P9.3: what Check refuses of the one or the other.
func TestNotInForm(t *testing.T) {
	refuses := func(what string, l []api.Term, ok bool, e api.Errno) {
		t.Helper()
		if len(l) != 0 || ok || e != api.ErrMatch {
			t.Errorf("%s: %#v, %v, %d", what, l, ok, e)
		}
	}
	for what, w := range wrongs() {
		for _, r := range [][]api.Term{nil, list(is(api.EthDst, 1)), everyField(), w} {
			l, ok, e := match.And(w, r)
			refuses("And of "+what, l, ok, e)
			l, ok, e = match.And(r, w)
			refuses("And with "+what, l, ok, e)
			if match.Implies(w, r) || match.Implies(r, w) || match.Meet(w, r) || match.Meet(r, w) {
				t.Errorf("%s: Implies, Meet", what)
			}
		}
		l, ok, e := match.Whole(w)
		refuses("Whole of "+what, l, ok, e)
	}
}

// P9.2: of each field alone.
func TestWholeOfOne(t *testing.T) {
	ip, proto := is(api.EthType, 0x0800), func(p uint64) api.Term { return is(api.IpProto, p) }
	for f := 1; f <= api.Fields; f++ {
		own := is(f, full(f)&5)
		want := list(own)
		switch {
		case f >= api.ArpOp && f <= api.ArpTpa:
			want = list(is(api.EthType, 0x0806), own)
		case f >= api.IpSrc && f <= api.IpFrag, f == api.TpSrc, f == api.TpDst:
			want = list(ip, own)
		case f == api.IcmpType, f == api.IcmpCode:
			want = list(ip, proto(1), own)
		case f == api.TcpFlags:
			want = list(ip, proto(6), own)
		}
		if l, ok, e := match.Whole(list(own)); !slices.Equal(l, want) || !ok || e != api.OK {
			t.Errorf("%d: %#v, %v, %d", f, l, ok, e)
		}
	}
}

// P9.2: needs that follow already, that do not agree, that come to be there.
func TestWhole(t *testing.T) {
	ip := is(api.EthType, 0x0800)
	for _, c := range []struct {
		what string
		l    []api.Term
		want []api.Term
		ok   bool
	}{
		{"none", nil, nil, true},
		{"the document's example", list(is(api.TpDst, 80)), list(ip, is(api.TpDst, 80)), true},
		{"no needs", list(is(1, 1), is(28, 2)), list(is(1, 1), is(28, 2)), true},
		{"needs that follow already", list(ip, is(api.IpProto, 6), is(api.TcpFlags, 2)), list(ip, is(api.IpProto, 6), is(api.TcpFlags, 2)), true},
		{"one of two needs", list(is(api.IpProto, 1), is(api.IcmpType, 8)), list(ip, is(api.IpProto, 1), is(api.IcmpType, 8)), true},
		{"between others", list(is(1, 1), is(api.TpSrc, 2), is(28, 3)), list(is(1, 1), ip, is(api.TpSrc, 2), is(28, 3)), true},
		{"a part of a need's bits", list(term(api.EthType, 0x0800, 0xff00), is(api.IpTtl, 1)), list(ip, is(api.IpTtl, 1)), true},
		{"a bit of a need", list(term(api.EthType, 0, 1), is(api.ArpOp, 1)), list(is(api.EthType, 0x0806), is(api.ArpOp, 1)), true},
		{"a bit that a need has not", list(term(api.EthType, 1, 1), is(api.ArpOp, 1)), nil, false},
		{"another type", list(is(api.EthType, 0x86dd), is(api.IpTtl, 1)), nil, false},
		{"ARP's type", list(is(api.EthType, 0x0806), is(api.IpTtl, 1)), nil, false},
		{"ARP and IPv4", list(is(api.ArpOp, 1), is(api.IpTtl, 1)), nil, false},
		{"ARP and TCP", list(is(api.ArpTpa, 1), is(api.TcpFlags, 1)), nil, false},
		{"ICMP and TCP", list(is(api.IcmpType, 8), is(api.TcpFlags, 1)), nil, false},
		{"ICMP of another protocol", list(is(api.IpProto, 17), is(api.IcmpCode, 8)), nil, false},
		{"ports of ICMP: the needs agree", list(is(api.IcmpType, 8), is(api.TpDst, 1)), list(ip, is(api.IpProto, 1), is(api.IcmpType, 8), is(api.TpDst, 1)), true},
		{"ports of whatever protocol", list(is(api.IpProto, 17), is(api.TpDst, 67)), list(ip, is(api.IpProto, 17), is(api.TpDst, 67)), true},
		{"each field", everyField(), nil, false},
	} {
		if l, ok, e := match.Whole(c.l); !slices.Equal(l, c.want) || ok != c.ok || e != api.OK {
			t.Errorf("%s: %#v, %v, %d", c.what, l, ok, e)
		}
	}
}

// P9.3
func TestImplies(t *testing.T) {
	net, host := term(api.IpSrc, 0x0a000000, 0xff000000), is(api.IpSrc, 0x0a000001)
	for _, c := range []struct {
		what   string
		a, b   []api.Term
		ab, ba bool
		meet   bool
	}{
		{"none", nil, nil, true, true, true},
		{"one and none", list(net), nil, true, false, true},
		{"the same", list(net, is(19, 80)), list(net, is(19, 80)), true, true, true},
		{"a host in a net", list(host), list(net), true, false, true},
		{"another net", list(host), list(term(api.IpSrc, 0x0b000000, 0xff000000)), false, false, false},
		{"one field more", list(host, is(19, 80)), list(net), true, false, true},
		{"one field more ahead", list(is(1, 1), host), list(net), true, false, true},
		{"one field more between", list(is(1, 1), host, is(19, 80)), list(is(1, 1), is(19, 80)), true, false, true},
		{"more on both sides", list(host), list(net, is(19, 80)), false, false, true},
		{"another field", list(is(10, 1)), list(is(11, 1)), false, false, true},
		{"another value", list(is(10, 1)), list(is(10, 2)), false, false, false},
		{"another value of the last", list(is(1, 1), is(10, 1)), list(is(1, 1), is(10, 2)), false, false, false},
		{"masks that lie across", list(term(25, 1, 3)), list(term(25, 1, 5)), false, false, true},
		{"masks that are apart", list(term(25, 1, 1)), list(term(25, 2, 2)), false, false, true},
		{"a mask within, noughts", list(term(25, 0, 7)), list(term(25, 0, 2)), true, false, true},
		{"a mask within, other bits", list(term(25, 0, 7)), list(term(25, 2, 2)), false, false, false},
		{"needs are not wanted by themselves", list(is(api.IpTtl, 1)), list(is(api.EthType, 0x0800)), false, false, true},
		{"all fields", everyField(), list(is(1, 1), is(14, 1), is(28, 1)), true, false, true},
	} {
		if ab, ba := match.Implies(c.a, c.b), match.Implies(c.b, c.a); ab != c.ab || ba != c.ba {
			t.Errorf("%s: %v, %v", c.what, ab, ba)
		}
		if match.Meet(c.a, c.b) != c.meet || match.Meet(c.b, c.a) != c.meet {
			t.Errorf("%s: Meet", c.what)
		}
	}
}

// P9.4
func TestText(t *testing.T) {
	for _, c := range []struct {
		l    []api.Term
		want string
	}{
		{nil, ""},
		{list(), ""},
		{list(is(api.TpDst, 80)), "tp.dst == 0x50"},
		{list(is(api.Reg0, 0)), "reg0 == 0x0"},
		{list(is(api.IpSrc, 0x0a000001)), "ip4.src == 0xa000001"},
		{list(term(api.IpSrc, 0x0a000000, 0xff000000)), "ip4.src == 0xa000000 / 0xff000000"},
		{list(term(api.IpSrc, 0, 0)), "ip4.src == 0x0 / 0x0"},
		{list(is(api.EthDst, 0xabcdef012345)), "eth.dst == 0xabcdef012345"},
		{list(term(api.EthDst, 1<<40, 1<<40)), "eth.dst == 0x10000000000 / 0x10000000000"},
		{list(term(api.VlanTag, 65536, 65536)), "vlan.tag == 0x10000 / 0x10000"},
		{list(is(api.VlanTag, 65536+9)), "vlan.tag == 0x10009"},
		{list(is(api.TcpFlags, 0xfff)), "tcp.flags == 0xfff"},
		{list(term(api.IpTtl, 0x100, 0x1ff)), "ip.ttl == 0x100 / 0x1ff"},
		{list(term(api.CtState, 2, 14), is(api.Datapath, 0xffffff)), "ct.state == 0x2 / 0xe && datapath == 0xffffff"},
		{list(is(api.EthType, 0x0800), term(api.IpTtl, 1, 15), is(api.Reg3, 7)), "eth.type == 0x800 && ip.ttl == 0x1 / 0xf && reg3 == 0x7"},
		{list(is(api.Reg1, 10), is(api.Reg1, 10), is(api.EthSrc, 11)), "reg1 == 0xa && reg1 == 0xa && eth.src == 0xb"},
		{list(term(0, 1, 0)), "?0 == 0x1"},
		{list(term(29, 0, 0), is(api.InPort, 1)), "?29 == 0x0 && inport == 0x1"},
		{list(is(api.OutPort, 2), term(-1, math.MaxUint64, math.MaxUint64)), "outport == 0x2 && ?-1 == 0xffffffffffffffff / 0xffffffffffffffff"},
		{list(term(1000, 16, 16)), "?1000 == 0x10 / 0x10"},
	} {
		if s := match.Text(c.l); s != c.want {
			t.Errorf("%q, not %q", s, c.want)
		}
	}
}

// random is a match in form of few fields and bits, such that States satisfy it now and then.
func random(r *rand.Rand, s api.State) []api.Term {
	var l []api.Term
	for _, f := range []int{1, 3, 4, 5, 10, 11, 12, 16, 19, 20, 21, 25, 28} {
		if r.Intn(4) != 0 {
			continue
		}
		mask := r.Uint64() & r.Uint64() & full(f)
		if mask == 0 {
			mask = 1
		}
		value := valueOf(s, f)
		if r.Intn(3) == 0 {
			value = r.Uint64()
		}
		l = append(l, term(f, value&mask, mask))
	}
	return l
}

// weaker is a match that l implies: of some fields of it, with fewer bits.
func weaker(r *rand.Rand, l []api.Term) []api.Term {
	var out []api.Term
	for _, x := range l {
		if mask := x.Mask & r.Uint64(); mask != 0 && r.Intn(3) != 0 {
			out = append(out, term(x.Field, x.Value&mask, mask))
		}
	}
	return out
}

// valueOf is what a State's place of a field says, whether it has it or not.
func valueOf(s api.State, f int) uint64 {
	tag := 0
	if s.P.Eth.Tagged {
		tag = s.P.Eth.Tag + 65536
	}
	return map[int]uint64{
		1: s.P.Eth.Dst, 3: uint64(s.P.Eth.Type), 4: uint64(tag), 5: uint64(s.P.Arp.Op),
		10: uint64(s.P.Ip.Src), 11: uint64(s.P.Ip.Dst), 12: uint64(s.P.Ip.Proto), 16: uint64(s.P.L4.Type),
		19: uint64(s.P.L4.Dport), 20: uint64(s.P.L4.Flags), 21: uint64(s.Ct), 25: uint64(s.Regs[0]), 28: uint64(s.Regs[3]),
	}[f]
}

// hasField tells whether a State has one of the fields that random uses.
func hasField(s api.State, f int) bool {
	switch f {
	case 5:
		return s.P.IsArp
	case 10, 11, 12:
		return s.P.IsIp
	case 16:
		return s.P.IsIp && s.P.L4.Kind == 1
	case 19:
		return s.P.IsIp && s.P.L4.Kind >= 2
	case 20:
		return s.P.IsIp && s.P.L4.Kind == 3
	}
	return true
}

// P9.1, P9.5: of whatever matches and States.
func TestWhatFollows(t *testing.T) {
	r := rand.New(rand.NewSource(9))
	both, implied, apart := 0, 0, 0
	for range 20000 {
		s := states()[r.Intn(len(states()))]
		a, b := random(r, s), random(r, s)
		if r.Intn(3) == 0 {
			b = weaker(r, a)
		}
		sa, sb := match.Satisfies(s, a), match.Satisfies(s, b)
		want := !slices.ContainsFunc(a, func(x api.Term) bool { return !hasField(s, x.Field) || valueOf(s, x.Field)&x.Mask != x.Value })
		if sa != want {
			t.Fatalf("Satisfies of %s: %v", match.Text(a), sa)
		}
		l, ok, e := match.And(a, b)
		if e != api.OK || ok != match.Meet(a, b) || match.Check(l) != api.OK {
			t.Fatalf("And of %s, %s: %v, %d", match.Text(a), match.Text(b), ok, e)
		}
		if (sa && sb) != (ok && match.Satisfies(s, l)) {
			t.Fatalf("And of %s, %s: %s", match.Text(a), match.Text(b), match.Text(l))
		}
		if ok && (!match.Implies(l, a) || !match.Implies(l, b)) {
			t.Fatalf("%s implies not %s and %s", match.Text(l), match.Text(a), match.Text(b))
		}
		if match.Implies(a, b) != (ok && slices.Equal(l, a)) || match.Implies(a, b) && sa && !sb {
			t.Fatalf("%s implies %s", match.Text(a), match.Text(b))
		}
		both, implied, apart = both+one(sa && sb), implied+one(match.Implies(a, b) && len(b) > 0), apart+one(!ok)
	}
	if both < 100 || implied < 100 || apart < 100 {
		t.Errorf("%d, %d, %d: too few to tell", both, implied, apart)
	}
}

func one(b bool) int {
	if b {
		return 1
	}
	return 0
}

// P9.2, P9.5: Whole is whole, stays so, and is satisfied by just the same packets.
func TestWholeIsWhole(t *testing.T) {
	r := rand.New(rand.NewSource(10))
	for range 5000 {
		s := states()[r.Intn(len(states())-1)]
		l := random(r, s)
		w, ok, e := match.Whole(l)
		if e != api.OK || ok && !match.Implies(w, l) {
			t.Fatalf("Whole of %s: %s, %v, %d", match.Text(l), match.Text(w), ok, e)
		}
		if again, ok2, _ := match.Whole(w); ok && (!ok2 || !slices.Equal(again, w)) {
			t.Fatalf("Whole of Whole of %s: %s", match.Text(l), match.Text(again))
		}
		if match.Satisfies(s, l) != (ok && match.Satisfies(s, w)) {
			t.Fatalf("Whole of %s: %s", match.Text(l), match.Text(w))
		}
	}
}

// spare is a copy of a list with room behind its end, in which something lies.
func spare(l []api.Term) []api.Term {
	long := append(slices.Clone(l), is(1, 77), is(2, 78), is(3, 79), is(4, 80))
	return long[:len(l)]
}

// R3: what is handed in stays, and answers are new memory, spare room and all.
func TestAnswersAreNew(t *testing.T) {
	r := rand.New(rand.NewSource(11))
	for range 500 {
		a, b := spare(random(r, tcp())), spare(random(r, tcp()))
		wantA, wantB := slices.Clone(a[:cap(a)]), slices.Clone(b[:cap(b)])
		x, _, _ := match.And(a, b)
		y, _, _ := match.And(a, nil)
		z, _, _ := match.And(nil, a)
		w, _, _ := match.Whole(a)
		kept := slices.Clone(w)
		match.Implies(a, b)
		match.Text(a)
		for _, l := range [][]api.Term{x, y, z} {
			clear(l[:cap(l)])
		}
		if !slices.Equal(a[:cap(a)], wantA) || !slices.Equal(b[:cap(b)], wantB) || !slices.Equal(w, kept) {
			t.Fatalf("%#v, %#v", a, b)
		}
		clear(w[:cap(w)])
		if !slices.Equal(a[:cap(a)], wantA) {
			t.Fatalf("%#v", a)
		}
	}
}
