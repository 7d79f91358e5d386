package flow_test

import (
	"slices"
	"testing"

	"skein/api"
	"skein/dpath"
	"skein/flow"
	"skein/match"
)

// P20.1: a match with which the datapath can't be, or whose fields no one frame has, makes no flow. (No text of an
// ACL has such a one.)
func TestBuilderLeavesOut(t *testing.T) {
	b := flow.Of(5)
	put := b.Table(3)
	put(7, flow.When(flow.Is(api.Datapath, 6)), flow.GoTo(4))
	put(7, flow.When(flow.Under(api.Datapath, 2, 2)), flow.GoTo(4))
	put(7, flow.When(flow.Is(api.IpTtl, 1), flow.Is(api.ArpOp, 1)), flow.GoTo(4))
	if l := b.Flows(); len(l) != 0 {
		t.Errorf("%+v", l)
	}
	put(7, flow.When(flow.Under(api.Datapath, 4, 6)), flow.GoTo(4))
	put(7, flow.When(flow.Is(api.InPort, 2), flow.Is(api.ArpOp, 1)), flow.GoTo(4))
	l := b.Flows()
	if len(l) != 2 || match.Text(l[0].Terms) != "datapath == 0x5" || match.Text(l[1].Terms) != "eth.type == 0x806 && arp.op == 0x1 && datapath == 0x5 && inport == 0x2" {
		t.Errorf("%+v", l)
	}
}

// Terms and actions, of values of each kind, with all bits of their fields.
func TestTermsAndActs(t *testing.T) {
	for _, x := range []struct{ got, want api.Term }{
		{flow.Is(api.VlanTag, 0), api.Term{Field: api.VlanTag, Mask: 0x1ffff}},
		{flow.Is(api.IpSrc, uint32(1<<32-1)), api.Term{Field: api.IpSrc, Value: 1<<32 - 1, Mask: 1<<32 - 1}},
		{flow.Is(api.EthDst, uint64(api.MaxMac)), api.Term{Field: api.EthDst, Value: api.MaxMac, Mask: api.MaxMac}},
		{flow.Has(api.CtState, 6), api.Term{Field: api.CtState, Value: 6, Mask: 6}},
		{flow.Under(api.IpTtl, 0, 0xfe), api.Term{Field: api.IpTtl, Mask: 0xfe}},
	} {
		if x.got != x.want {
			t.Errorf("%+v, not %+v", x.got, x.want)
		}
	}
	want := []api.Act{
		{Kind: api.ActSet, Field: api.Datapath, Value: 7, Mask: 1<<24 - 1}, {Kind: api.ActSet, Field: api.InPort, Value: 8, Mask: 1<<16 - 1},
		{Kind: api.ActSet, Field: api.OutPort, Mask: 1<<16 - 1}, {Kind: api.ActSet, Field: api.CtState, Mask: 255},
		{Kind: api.ActSet, Field: api.Reg0, Mask: 1<<32 - 1}, {Kind: api.ActSet, Field: api.Reg1, Mask: 1<<32 - 1}, {Kind: api.ActSet, Field: api.Reg3, Mask: 1<<32 - 1},
		{Kind: api.ActGo, Table: 9},
	}
	same := func(got, want []api.Act) bool { return dpath.Same(api.Flow{Acts: got}, api.Flow{Acts: want}) }
	if got := flow.Enter(7, 8, 9); !same(got, want) {
		t.Errorf("%+v", got)
	}
	want = []api.Act{{Kind: api.ActMove, From: api.IpDst, Field: api.Reg1}, {Kind: api.ActSet, Field: api.Reg0, Value: 3, Mask: 3}}
	if got := []api.Act{flow.Move(api.IpDst, api.Reg1), flow.Mark(api.Reg0, 3)}; !same(got, want) {
		t.Errorf("%+v", got)
	}
}

// The order that pipelines have: by tables, by falling priorities, by texts.
func TestSorted(t *testing.T) {
	at := func(table, priority int, terms ...api.Term) api.Flow {
		return api.Flow{Table: table, Priority: priority, Terms: terms}
	}
	l := []api.Flow{
		at(2, 9), at(2, 10, flow.Is(api.InPort, 16)), at(2, 10, flow.Is(api.InPort, 2)), at(2, 10), at(10, 65535), at(0, 0), at(0, 1),
		at(2, 10, flow.Is(api.EthType, 5), flow.Is(api.InPort, 1)), at(2, 10, flow.Is(api.EthDst, 5)),
	}
	handed := slices.Clone(l)
	p, e := dpath.New(l)
	if got := flow.Sorted(l); e != api.OK || !slices.EqualFunc(got, p.Flows(), dpath.Same) {
		t.Errorf("%d, %+v", e, got)
	}
	if !slices.EqualFunc(l, handed, dpath.Same) {
		t.Errorf("what was handed in: %+v", l)
	}
	if l := flow.Sorted(nil); len(l) != 0 {
		t.Errorf("of none: %+v", l)
	}
}

// A copy is the same, and shares no list with what it is of.
func TestCopy(t *testing.T) {
	whole := func() api.Flow {
		within := api.Act{Kind: api.ActClone, Acts: []api.Act{{Kind: api.ActPick, Ways: []api.Way{{Ip: 3, Port: 4}}}}}
		return api.Flow{Table: 1, Priority: 2, Terms: flow.When(flow.Is(api.InPort, 5)), Acts: []api.Act{flow.GoTo(1), {Kind: api.ActClone, Acts: []api.Act{within}}}}
	}
	f := whole()
	g := flow.Copy(f)
	if !dpath.Same(g, whole()) {
		t.Errorf("%+v", g)
	}
	g.Terms[0].Value, g.Acts[0].Table, g.Acts[1].Acts[0].Acts[0].Ways[0].Ip = 9, 9, 9
	g.Acts[1].Acts[0].Acts[0].Kind, g.Acts[1].Acts[0].Kind = 9, 9
	if !dpath.Same(f, whole()) {
		t.Errorf("%+v", f)
	}
}
