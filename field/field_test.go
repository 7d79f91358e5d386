package field_test

import (
	"math"
	"math/rand"
	"slices"
	"testing"

	"skein/api"
	"skein/field"
)

// Which packets have a field, as the document's table has it.
const (
	every = iota
	isArp
	isIp
	isIcmp
	isPorted
	isTcp
)

// entry is a row of the document's table, and how a State comes to have a number there.
type entry struct {
	f    int
	name string
	bits int
	of   int
	put  func(s *api.State, v uint64)
}

func entries() []entry {
	return []entry{
		{1, "eth.dst", 48, every, func(s *api.State, v uint64) { s.P.Eth.Dst = v }},
		{2, "eth.src", 48, every, func(s *api.State, v uint64) { s.P.Eth.Src = v }},
		{3, "eth.type", 16, every, func(s *api.State, v uint64) { s.P.Eth.Type = int(v) }},
		{4, "vlan.tag", 17, every, putTag},
		{5, "arp.op", 16, isArp, func(s *api.State, v uint64) { s.P.Arp.Op = int(v) }},
		{6, "arp.sha", 48, isArp, func(s *api.State, v uint64) { s.P.Arp.Sha = v }},
		{7, "arp.spa", 32, isArp, func(s *api.State, v uint64) { s.P.Arp.Spa = uint32(v) }},
		{8, "arp.tha", 48, isArp, func(s *api.State, v uint64) { s.P.Arp.Tha = v }},
		{9, "arp.tpa", 32, isArp, func(s *api.State, v uint64) { s.P.Arp.Tpa = uint32(v) }},
		{10, "ip4.src", 32, isIp, func(s *api.State, v uint64) { s.P.Ip.Src = uint32(v) }},
		{11, "ip4.dst", 32, isIp, func(s *api.State, v uint64) { s.P.Ip.Dst = uint32(v) }},
		{12, "ip.proto", 8, isIp, func(s *api.State, v uint64) { s.P.Ip.Proto = int(v) }},
		{13, "ip.ttl", 8, isIp, func(s *api.State, v uint64) { s.P.Ip.Ttl = int(v) }},
		{14, "ip.tos", 8, isIp, func(s *api.State, v uint64) { s.P.Ip.Tos = int(v) }},
		{15, "ip.frag", 16, isIp, func(s *api.State, v uint64) { s.P.Ip.Frag = int(v) }},
		{16, "icmp.type", 8, isIcmp, func(s *api.State, v uint64) { s.P.L4.Type = int(v) }},
		{17, "icmp.code", 8, isIcmp, func(s *api.State, v uint64) { s.P.L4.Code = int(v) }},
		{18, "tp.src", 16, isPorted, func(s *api.State, v uint64) { s.P.L4.Sport = int(v) }},
		{19, "tp.dst", 16, isPorted, func(s *api.State, v uint64) { s.P.L4.Dport = int(v) }},
		{20, "tcp.flags", 12, isTcp, func(s *api.State, v uint64) { s.P.L4.Flags = int(v) }},
		{21, "ct.state", 8, every, func(s *api.State, v uint64) { s.Ct = int(v) }},
		{22, "datapath", 24, every, func(s *api.State, v uint64) { s.Dp = int(v) }},
		{23, "inport", 16, every, func(s *api.State, v uint64) { s.In = int(v) }},
		{24, "outport", 16, every, func(s *api.State, v uint64) { s.Out = int(v) }},
		{25, "reg0", 32, every, func(s *api.State, v uint64) { s.Regs[0] = uint32(v) }},
		{26, "reg1", 32, every, func(s *api.State, v uint64) { s.Regs[1] = uint32(v) }},
		{27, "reg2", 32, every, func(s *api.State, v uint64) { s.Regs[2] = uint32(v) }},
		{28, "reg3", 32, every, func(s *api.State, v uint64) { s.Regs[3] = uint32(v) }},
	}
}

// putTag puts a number of VlanTag into a State as the document has it.
func putTag(s *api.State, v uint64) {
	s.P.Eth.Tagged, s.P.Eth.Tag = false, 0
	if v >= 65536 {
		s.P.Eth.Tagged, s.P.Eth.Tag = true, int(v-65536)
	}
}

// full is the greatest number of an entry's field.
func (n entry) full() uint64 {
	return math.MaxUint64 >> (64 - n.bits)
}

// isFixed tells of the fields that may not be set.
func (n entry) isFixed() bool {
	return n.name == "eth.type" || n.name == "ip.proto" || n.name == "ip.frag"
}

// isIn tells whether a State has an entry's field.
func (n entry) isIn(s api.State) bool {
	switch n.of {
	case isArp:
		return s.P.IsArp
	case isIp:
		return s.P.IsIp
	case isIcmp:
		return s.P.IsIp && s.P.L4.Kind == 1
	case isPorted:
		return s.P.IsIp && (s.P.L4.Kind == 2 || s.P.L4.Kind == 3)
	case isTcp:
		return s.P.IsIp && s.P.L4.Kind == 3
	}
	return true
}

// The numbers that are no field.
var noFields = []int{0, -1, 29, 30, 64, 256 + 1, 1<<32 + 1, -28, math.MinInt, math.MaxInt}

// base is a State with a number of its own in every place that is no field's.
func base() api.State {
	return api.State{
		P: api.Packet{
			Ip:   api.Ip{Id: 77, Options: "opts"},
			L4:   api.L4{Rest: 78, NoSum: true, Seq: 79, Ack: 80, Window: 81, Urgent: 82, Options: "more", Data: "data"},
			Body: "body", Pad: "pad",
		},
		Orig: api.Tuple{Proto: 83, Src: 84, Dst: 85, Sport: 86, Dport: 87},
	}
}

// kinds is States of all kinds of packets, right ones and others.
func kinds() []api.State {
	var l []api.State
	for _, arp := range []bool{false, true} {
		for _, ip := range []bool{false, true} {
			for kind := -1; kind <= 4; kind++ {
				s := base()
				s.P.IsArp, s.P.IsIp, s.P.L4.Kind = arp, ip, kind
				l = append(l, s)
			}
		}
	}
	return l
}

// random is a State of that kind with whatever numbers in its fields.
func random(r *rand.Rand, s api.State) api.State {
	for _, n := range entries() {
		n.put(&s, r.Uint64()&n.full())
	}
	return s
}

// P8.1
func TestNamesAndBits(t *testing.T) {
	if len(entries()) != api.Fields {
		t.Fatal("the table has another length")
	}
	for i, n := range entries() {
		if n.f != i+1 || field.Name(n.f) != n.name || field.Bits(n.f) != n.bits {
			t.Errorf("%d: %q, %d", n.f, field.Name(n.f), field.Bits(n.f))
		}
		if f, ok := field.Find(n.name); f != n.f || !ok {
			t.Errorf("%q: %d, %v", n.name, f, ok)
		}
	}
	for _, f := range noFields {
		if field.Name(f) != "" || field.Bits(f) != 0 {
			t.Errorf("%d: %q, %d", f, field.Name(f), field.Bits(f))
		}
	}
}

// P8.1: the constants of package api are the table's.
func TestConstants(t *testing.T) {
	for name, f := range map[string]int{
		"eth.dst": api.EthDst, "eth.src": api.EthSrc, "eth.type": api.EthType, "vlan.tag": api.VlanTag,
		"arp.op": api.ArpOp, "arp.sha": api.ArpSha, "arp.spa": api.ArpSpa, "arp.tha": api.ArpTha, "arp.tpa": api.ArpTpa,
		"ip4.src": api.IpSrc, "ip4.dst": api.IpDst, "ip.proto": api.IpProto, "ip.ttl": api.IpTtl, "ip.tos": api.IpTos, "ip.frag": api.IpFrag,
		"icmp.type": api.IcmpType, "icmp.code": api.IcmpCode, "tp.src": api.TpSrc, "tp.dst": api.TpDst, "tcp.flags": api.TcpFlags,
		"ct.state": api.CtState, "datapath": api.Datapath, "inport": api.InPort, "outport": api.OutPort,
		"reg0": api.Reg0, "reg1": api.Reg1, "reg2": api.Reg2, "reg3": api.Reg3,
	} {
		if field.Name(f) != name {
			t.Errorf("%d: %q, not %q", f, field.Name(f), name)
		}
	}
}

// P8.1
func TestFindNone(t *testing.T) {
	for _, name := range []string{
		"", " ", "eth", "eth.", ".dst", "eth.dst ", " eth.dst", "eth.dst\x00", "eth.ds", "eth.dstt", "ETH.DST", "Eth.dst",
		"EthDst", "ip4.ttl", "ip.src", "ip.dst", "ip4.proto", "tcp.src", "udp.dst", "reg", "reg4", "reg00", "reg-1", "0", "1", "28", "?",
	} {
		if f, ok := field.Find(name); f != 0 || ok {
			t.Errorf("%q: %d, %v", name, f, ok)
		}
	}
}

// P8.1
func TestHas(t *testing.T) {
	for _, s := range kinds() {
		for _, n := range entries() {
			if field.Has(s, n.f) != n.isIn(s) {
				t.Errorf("%v, %v, kind %d: %s %v", s.P.IsArp, s.P.IsIp, s.P.L4.Kind, n.name, !n.isIn(s))
			}
		}
		for _, f := range noFields {
			if field.Has(s, f) {
				t.Errorf("%d is none", f)
			}
		}
	}
}

// P8.1: the flags say what a packet is, whatever its type and its protocol.
func TestHasByFlagsAlone(t *testing.T) {
	s := api.State{P: api.Packet{Eth: api.Eth{Type: api.TypeIp}, Ip: api.Ip{Proto: api.ProtoTcp}, L4: api.L4{Kind: api.KindTcp}}}
	for _, f := range []int{api.IpSrc, api.IpProto, api.IpFrag, api.TpSrc, api.TpDst, api.TcpFlags} {
		if field.Has(s, f) {
			t.Errorf("not IPv4, but it has %s", field.Name(f))
		}
	}
	s = api.State{P: api.Packet{Eth: api.Eth{Type: api.TypeArp}, IsIp: true, Ip: api.Ip{Proto: api.ProtoUdp}, L4: api.L4{Kind: api.KindIcmp}}}
	if field.Has(s, api.ArpOp) || field.Has(s, api.TpSrc) || !field.Has(s, api.IcmpType) {
		t.Error("by type and protocol")
	}
}

// P8.2
func TestGet(t *testing.T) {
	r := rand.New(rand.NewSource(1))
	for _, s := range kinds() {
		s = random(r, s)
		for _, n := range entries() {
			for _, v := range []uint64{0, 1, n.full(), n.full() - 1, n.full()>>1 + 1, 0x123456789abc & n.full()} {
				if n.f == api.VlanTag && v < 65536 {
					continue // Tagged says whether there is a Tag: see below
				}
				x := s
				n.put(&x, v)
				got, e := field.Get(x, n.f)
				if n.isIn(s) && (got != v || e != api.OK) || !n.isIn(s) && (got != 0 || e != api.ErrPrereq) {
					t.Errorf("%s of %x: %x, %d", n.name, v, got, e)
				}
			}
		}
		for _, f := range noFields {
			if v, e := field.Get(s, f); v != 0 || e != api.ErrField {
				t.Errorf("%d: %x, %d", f, v, e)
			}
		}
	}
}

// P8.2: the Tag, and 65536 more, if it is Tagged; else 0.
func TestGetTag(t *testing.T) {
	for _, c := range []struct {
		tagged bool
		tag    int
		want   uint64
	}{
		{false, 0, 0}, {false, 7, 0}, {false, 65536, 0}, {false, -1, 0},
		{true, 0, 65536}, {true, 7, 65543}, {true, 65535, 131071},
		{true, 65536, 0}, {true, 65536 + 7, 7}, {true, 131072 + 7, 65543}, {true, -1, 65535}, // cut to 17 bits
	} {
		s := api.State{P: api.Packet{Eth: api.Eth{Tagged: c.tagged, Tag: c.tag}}}
		if v, e := field.Get(s, api.VlanTag); v != c.want || e != api.OK {
			t.Errorf("%v, %d: %d, %d", c.tagged, c.tag, v, e)
		}
	}
}

// tall is the fields whose places in a State have more room than the field has bits.
func tall() []entry {
	var l []entry
	for _, n := range entries() {
		if n.bits != 32 && n.f != api.VlanTag {
			l = append(l, n)
		}
	}
	return l
}

// P8.2: numbers beyond a field's bits are cut.
func TestGetCuts(t *testing.T) {
	s := base()
	s.P.IsArp, s.P.IsIp = true, true
	for _, n := range tall() {
		s.P.L4.Kind = api.KindTcp
		if n.of == isIcmp {
			s.P.L4.Kind = api.KindIcmp
		}
		for _, v := range []uint64{n.full() + 1, 2 * n.full(), n.full() + 6, math.MaxUint64, 1 << 63, math.MaxUint64 - 4} {
			x := s
			n.put(&x, v)
			if got, e := field.Get(x, n.f); got != v&n.full() || e != api.OK {
				t.Errorf("%s of %x: %x, %d", n.name, v, got, e)
			}
		}
	}
}

// masks is masks of an entry's field: none, all, some of its bits.
func masks(r *rand.Rand, n entry) []uint64 {
	return []uint64{0, n.full(), 1, n.full()>>1 + 1, n.full() >> 1, r.Uint64() & n.full(), r.Uint64() & n.full()}
}

// P8.2, P8.4: the bits under the mask are the value's; the rest of the State is what it was.
func TestSet(t *testing.T) {
	r := rand.New(rand.NewSource(2))
	for _, s := range kinds() {
		s = random(r, s)
		for _, n := range entries() {
			old, _ := field.Get(s, n.f)
			for _, mask := range masks(r, n) {
				for _, value := range []uint64{0, n.full(), r.Uint64() & n.full(), r.Uint64() & mask} {
					want, fault := s, api.OK
					n.put(&want, old&^mask|value&mask)
					if n.isFixed() {
						want, fault = api.State{}, api.ErrField
					} else if !n.isIn(s) {
						want, fault = api.State{}, api.ErrPrereq
					}
					if x, e := field.Set(s, n.f, value, mask); x != want || e != fault {
						t.Fatalf("%s, %x under %x: %#v, %d, not %#v, %d", n.name, value, mask, x, e, want, fault)
					}
				}
			}
		}
	}
}

// P8.2, R2: a value or a mask with a bit too many is told of ahead of what the packet has not.
func TestSetRefuses(t *testing.T) {
	for _, s := range kinds() {
		for _, n := range entries() {
			for bit := n.bits; bit < 64; bit++ {
				beyond := uint64(1) << bit
				for _, c := range [][2]uint64{{beyond, beyond}, {beyond, 0}, {0, beyond}, {beyond | 1, n.full()}, {1, beyond | n.full()}} {
					if x, e := field.Set(s, n.f, c[0], c[1]); x != (api.State{}) || e != api.ErrField {
						t.Errorf("%s, %x under %x: %#v, %d", n.name, c[0], c[1], x, e)
					}
				}
			}
		}
		for _, f := range noFields {
			for _, c := range [][2]uint64{{0, 0}, {1, 1}, {0, math.MaxUint64}} {
				if x, e := field.Set(s, f, c[0], c[1]); x != (api.State{}) || e != api.ErrField {
					t.Errorf("%d: %#v, %d", f, x, e)
				}
			}
		}
		for _, f := range []int{api.EthType, api.IpProto, api.IpFrag} {
			for _, c := range [][2]uint64{{0, 0}, {1, 1}, {0, 1}, {6, 0xff}} {
				if x, e := field.Set(s, f, c[0], c[1]); x != (api.State{}) || e != api.ErrField {
					t.Errorf("%s: %#v, %d", field.Name(f), x, e)
				}
			}
		}
	}
}

// P8.2: the document's examples.
func TestExamples(t *testing.T) {
	arp := api.State{P: api.Packet{Eth: api.Eth{Type: api.TypeArp}, IsArp: true, Arp: api.Arp{Op: 1}}}
	if x, e := field.Set(arp, api.IpTtl, 3, 0xff); x != (api.State{}) || e != api.ErrPrereq {
		t.Errorf("%#v, %d", x, e)
	}
	x, e := field.Set(arp, api.VlanTag, 65543, 0x1ffff)
	arp.P.Eth.Tagged, arp.P.Eth.Tag = true, 7
	if x != arp || e != api.OK {
		t.Errorf("%#v, %d", x, e)
	}
}

// P8.2: a State is Tagged just if the bit 65536 comes to be there.
func TestSetTag(t *testing.T) {
	const bit, all = 65536, 0x1ffff
	for _, c := range []struct {
		tagged      bool
		tag         int
		value, mask uint64
		becomes     bool
		wantTag     int
	}{
		{false, 0, bit | 7, all, true, 7},
		{false, 0, bit, all, true, 0},
		{false, 0, bit, bit, true, 0},
		{false, 0, bit | 65535, all, true, 65535},
		{false, 0, 7, all, false, 0},
		{false, 0, 7, 7, false, 0},
		{false, 0, bit | 7, 7, false, 0},
		{false, 0, bit | 7, bit | 3, true, 3},
		{false, 5, bit, bit, true, 0}, // no Tag is read where none is
		{false, 5, 0, 0, false, 0},
		{true, 5, 0, all, false, 0},
		{true, 5, 7, all, false, 0},
		{true, 5, 0, bit, false, 0},
		{true, 5, 0, 0, true, 5},
		{true, 5, 2, 2, true, 7},
		{true, 5, 0, 4, true, 1},
		{true, 5, 0xffff, 0xff00, true, 0xff05},
		{true, 5, bit | 9, all, true, 9},
		{true, 5, bit, bit, true, 5},
		{true, 65535, 0, 65535, true, 0},
	} {
		s := base()
		s.P.Eth = api.Eth{Dst: 1, Src: 2, Tagged: c.tagged, Tag: c.tag, Type: 3}
		want := s
		want.P.Eth.Tagged, want.P.Eth.Tag = c.becomes, c.wantTag
		if x, e := field.Set(s, api.VlanTag, c.value, c.mask); x != want || e != api.OK {
			t.Errorf("%v, %d, %x under %x: %#v, %d", c.tagged, c.tag, c.value, c.mask, x.P.Eth, e)
		}
	}
}

// P8.2: what stands beyond a field's bits is under no mask, and stays.
func TestSetKeepsWhatIsBeyond(t *testing.T) {
	s := base()
	s.P.IsArp, s.P.IsIp = true, true
	for _, n := range tall() {
		if n.isFixed() {
			continue
		}
		s.P.L4.Kind = api.KindTcp
		if n.of == isIcmp {
			s.P.L4.Kind = api.KindIcmp
		}
		for _, v := range []uint64{n.full() + 1, 8*n.full() + 13, math.MaxUint64, 1 << 63} {
			for _, mask := range []uint64{0, 1, n.full(), n.full() >> 1} {
				x, want := s, s
				n.put(&x, v)
				n.put(&want, v&^mask|2&mask)
				if got, e := field.Set(x, n.f, 2, mask); got != want || e != api.OK {
					t.Errorf("%s of %x under %x: %#v, %d", n.name, v, mask, got, e)
				}
			}
		}
	}
	s.P.Eth.Tagged, s.P.Eth.Tag = true, 0x60005
	want := s
	want.P.Eth.Tag = 0x60009
	if x, e := field.Set(s, api.VlanTag, 8, 0xc); x != want || e != api.OK {
		t.Errorf("%#v, %d", x.P.Eth, e)
	}
}

// moved is what Move should answer, by Get and Set.
func moved(s api.State, from, to entry) (api.State, api.Errno) {
	v, e := field.Get(s, from.f)
	if e != api.OK {
		return api.State{}, e
	}
	return field.Set(s, to.f, v&to.full(), to.full())
}

// P8.2: between all fields, of all kinds of packets.
func TestMove(t *testing.T) {
	r := rand.New(rand.NewSource(3))
	for _, s := range kinds() {
		s = random(r, s)
		s.P.Eth.Tagged, s.P.Eth.Tag = true, r.Intn(65536)
		for _, from := range entries() {
			for _, to := range entries() {
				want, fault := moved(s, from, to)
				if x, e := field.Move(s, from.f, to.f); x != want || e != fault {
					t.Errorf("%s to %s: %#v, %d", from.name, to.name, x, e)
				}
			}
		}
	}
}

// P8.2: fields of other widths, one by one.
func TestMoveWidths(t *testing.T) {
	s := base()
	s.P.IsIp, s.P.L4.Kind = true, api.KindTcp
	s.P.Eth = api.Eth{Dst: 0xabcdef123456, Src: 0x010203040506, Type: 0x0800, Tagged: true, Tag: 9}
	s.P.Ip.Src, s.P.Ip.Ttl, s.P.Ip.Proto = 0x0a0b0c0d, 200, 6
	s.P.L4.Flags, s.P.L4.Sport, s.P.L4.Dport = 0xfff, 0x1234, 0x5678
	s.Regs = [4]uint32{0xffffffff, 0x00010007, 0x00020007, 0x12345678}
	for _, c := range []struct {
		from, to int
		change   func(s *api.State)
	}{
		{api.EthDst, api.EthSrc, func(s *api.State) { s.P.Eth.Src = 0xabcdef123456 }},
		{api.EthDst, api.Reg0, func(s *api.State) { s.Regs[0] = 0xef123456 }},
		{api.EthDst, api.IpTtl, func(s *api.State) { s.P.Ip.Ttl = 0x56 }},
		{api.EthDst, api.TcpFlags, func(s *api.State) { s.P.L4.Flags = 0x456 }},
		{api.IpSrc, api.EthDst, func(s *api.State) { s.P.Eth.Dst = 0x0a0b0c0d }},
		{api.IpTtl, api.Reg0, func(s *api.State) { s.Regs[0] = 200 }},
		{api.IpProto, api.Reg3, func(s *api.State) { s.Regs[3] = 6 }},
		{api.EthType, api.InPort, func(s *api.State) { s.In = 0x0800 }},
		{api.TpSrc, api.TpDst, func(s *api.State) { s.P.L4.Dport = 0x1234 }},
		{api.Reg3, api.Datapath, func(s *api.State) { s.Dp = 0x345678 }},
		{api.Reg3, api.OutPort, func(s *api.State) { s.Out = 0x5678 }},
		{api.Reg3, api.CtState, func(s *api.State) { s.Ct = 0x78 }},
		{api.Reg1, api.VlanTag, func(s *api.State) { s.P.Eth.Tag = 7 }},
		{api.Reg2, api.VlanTag, func(s *api.State) { s.P.Eth.Tag, s.P.Eth.Tagged = 0, false }},
		{api.TpSrc, api.VlanTag, func(s *api.State) { s.P.Eth.Tag, s.P.Eth.Tagged = 0, false }},
		{api.VlanTag, api.VlanTag, func(s *api.State) {}},
		{api.VlanTag, api.Reg2, func(s *api.State) { s.Regs[2] = 65545 }},
		{api.VlanTag, api.OutPort, func(s *api.State) { s.Out = 9 }},
		{api.Reg0, api.Reg0, func(s *api.State) {}},
	} {
		want := s
		c.change(&want)
		if x, e := field.Move(s, c.from, c.to); x != want || e != api.OK {
			t.Errorf("%s to %s: %#v, %d", field.Name(c.from), field.Name(c.to), x, e)
		}
	}
}

// P8.2, R2: what is wrong with the field that is read is told first.
func TestMoveRefuses(t *testing.T) {
	udp := api.State{P: api.Packet{IsIp: true, L4: api.L4{Kind: api.KindUdp}}}
	for _, c := range []struct {
		from, to int
		want     api.Errno
	}{
		{0, api.Reg0, api.ErrField}, {29, api.Reg0, api.ErrField}, {-1, 99, api.ErrField}, {0, api.IcmpType, api.ErrField},
		{api.ArpOp, api.Reg0, api.ErrPrereq}, {api.IcmpType, 0, api.ErrPrereq}, {api.TcpFlags, api.EthType, api.ErrPrereq},
		{api.Reg0, 0, api.ErrField}, {api.Reg0, 29, api.ErrField}, {api.Reg0, math.MinInt, api.ErrField}, {api.Reg0, math.MaxInt, api.ErrField},
		{api.Reg0, api.EthType, api.ErrField}, {api.Reg0, api.IpProto, api.ErrField}, {api.IpFrag, api.IpFrag, api.ErrField},
		{api.Reg0, api.ArpOp, api.ErrPrereq}, {api.Reg0, api.IcmpCode, api.ErrPrereq}, {api.TpSrc, api.TcpFlags, api.ErrPrereq},
	} {
		if x, e := field.Move(udp, c.from, c.to); x != (api.State{}) || e != c.want {
			t.Errorf("%d to %d: %#v, %d, not %d", c.from, c.to, x, e, c.want)
		}
	}
}

// P8.3
func TestNeeds(t *testing.T) {
	ip := api.Term{Field: 3, Value: 0x0800, Mask: 0xffff}
	want := map[int][]api.Term{
		every:    nil,
		isArp:    {{Field: 3, Value: 0x0806, Mask: 0xffff}},
		isIp:     {ip},
		isIcmp:   {ip, {Field: 12, Value: 1, Mask: 0xff}},
		isPorted: {ip},
		isTcp:    {ip, {Field: 12, Value: 6, Mask: 0xff}},
	}
	for _, n := range entries() {
		if l := field.Needs(n.f); !slices.Equal(l, want[n.of]) {
			t.Errorf("%s: %#v", n.name, l)
		}
	}
	for _, f := range noFields {
		if l := field.Needs(f); len(l) != 0 {
			t.Errorf("%d: %#v", f, l)
		}
	}
}

// rights is States of packets as frames say them.
func rights() []api.State {
	ip := func(proto, kind int) api.State {
		return api.State{P: api.Packet{Eth: api.Eth{Type: api.TypeIp}, IsIp: true, Ip: api.Ip{Proto: proto, Ttl: 9}, L4: api.L4{Kind: kind}}}
	}
	return []api.State{
		{P: api.Packet{Eth: api.Eth{Type: 0x86dd}, Body: "body"}},
		{P: api.Packet{Eth: api.Eth{Type: api.TypeArp}, IsArp: true}},
		ip(1, api.KindIcmp), ip(17, api.KindUdp), ip(6, api.KindTcp), ip(6, api.KindOpaque), ip(89, api.KindOpaque),
	}
}

// P8.4: a State that has a field satisfies its Needs.
func TestNeedsAreSatisfied(t *testing.T) {
	for _, s := range rights() {
		for _, n := range entries() {
			for _, need := range field.Needs(n.f) {
				v, e := field.Get(s, need.Field)
				if field.Has(s, n.f) && (e != api.OK || v&need.Mask != need.Value) {
					t.Errorf("%s needs %#v: %x, %d", n.name, need, v, e)
				}
			}
		}
	}
}

// P8.4: Get of Set is the value under the mask, and what was there elsewhere; no other field changes.
func TestGetOfSet(t *testing.T) {
	r := rand.New(rand.NewSource(4))
	for range 300 {
		for _, s := range rights() {
			n := entries()[r.Intn(api.Fields)]
			value, mask := r.Uint64()&n.full(), r.Uint64()&n.full()
			if n.f == api.VlanTag {
				value, mask = value|65536, mask|65536
			}
			x, e := field.Set(s, n.f, value, mask)
			if e != api.OK {
				continue
			}
			for _, m := range entries() {
				want, fault := field.Get(s, m.f)
				if m.f == n.f {
					want = want&^mask | value&mask
				}
				if got, e := field.Get(x, m.f); got != want || e != fault {
					t.Errorf("%s behind Set of %s: %x, %d, not %x", m.name, n.name, got, e, want)
				}
			}
		}
	}
}

// R3: what is handed in stays, and answers are new memory, spare room and all.
func TestAnswersAreNew(t *testing.T) {
	s := random(rand.New(rand.NewSource(5)), base())
	s.P.IsIp, s.P.L4.Kind = true, api.KindTcp
	before := s
	for _, n := range entries() {
		field.Set(s, n.f, 1, 1)
		field.Move(s, n.f, api.Reg0)
		a, b := field.Needs(n.f), field.Needs(n.f)
		want := slices.Clone(b)
		clear(a[:cap(a)])
		if !slices.Equal(b, want) || !slices.Equal(field.Needs(n.f), want) {
			t.Errorf("%s: %#v", n.name, b)
		}
	}
	if s != before {
		t.Errorf("%#v", s)
	}
}
