package program_test

import (
	"slices"
	"testing"

	"skein/api"
	"skein/dpath"
	"skein/keys"
	"skein/lower"
	"skein/nbdb"
	"skein/program"
)

// rows is a switch with three VIFs, of which one is bound to no host, and a link to a router; and a switch with a VIF.
func rows() []api.Row {
	return []api.Row{
		{Kind: api.RowSwitch, Name: "s"}, {Kind: api.RowSwitch, Name: "t"}, {Kind: api.RowRouter, Name: "r"},
		{Kind: api.RowPort, Name: "a", Owner: "s", Mac: 1, Ip: 0x0a000001}, {Kind: api.RowPort, Name: "b", Owner: "s", Mac: 2, Ip: 0x0a000002},
		{Kind: api.RowPort, Name: "c", Owner: "s", Mac: 3, Ip: 0x0a000003}, {Kind: api.RowPort, Name: "d", Owner: "t", Mac: 1, Ip: 0x0a000001},
		{Kind: api.RowPort, Name: "l", Owner: "s", Peer: "r-s"}, {Kind: api.RowRouterPort, Name: "r-s", Owner: "r", Mac: 9, Ip: 0x0a0000fe, Num: 24},
		{Kind: api.RowAcl, Owner: "s", Num: 5, Text: "inport == a && tcp", Num2: api.AclDrop},
		{Kind: api.RowBind, Name: "a", Num: 0}, {Kind: api.RowBind, Name: "b", Num: 1}, {Kind: api.RowBind, Name: "d", Num: 63},
	}
}

func keysOf(t *testing.T, l []api.Row) api.Keys {
	t.Helper()
	k, e := keys.Update(api.Keys{}, l)
	if e != api.OK || nbdb.Check(l) != api.OK {
		t.Fatalf("keys: %d", e)
	}
	return k
}

// What hosts share and what each has of its own is its program, and no flow is of both kinds.
func TestPrograms(t *testing.T) {
	k := keysOf(t, rows())
	p, ok := program.Of(rows(), k)
	if !ok {
		t.Fatal("no programs")
	}
	for host, size := range map[int]int{0: 4, 1: 4, 2: 3, 63: 4} {
		own, all := p.Own(host), p.At(host)
		if len(own) != size || len(all) != len(p.Shared())+size {
			t.Errorf("host %d: %d of %d flows are its own", host, len(own), len(all))
		}
		if added, removed := lower.Diff(lower.Program(rows(), k, host), all); len(added)+len(removed) != 0 {
			t.Errorf("host %d: %+v, %+v", host, added, removed)
		}
		for _, f := range own {
			if slices.ContainsFunc(p.Shared(), func(g api.Flow) bool { return dpath.Same(f, g) }) {
				t.Errorf("host %d shares %+v", host, f)
			}
		}
	}
	// A host's flows lie in no memory that another one's are appended to.
	one, other := p.At(0), p.At(1)
	if !slices.EqualFunc(one, p.At(0), dpath.Same) || slices.EqualFunc(one, other, dpath.Same) {
		t.Errorf("two hosts' flows share memory")
	}
}

// What has no programs.
func TestNone(t *testing.T) {
	k := keysOf(t, rows())
	if p, ok := program.Of(append(rows(), api.Row{}), k); ok || p != nil {
		t.Errorf("rows that are not well formed")
	}
	if p, ok := program.Of(rows(), api.Keys{}); ok || p != nil {
		t.Errorf("keys that lack names")
	}
	k.Ports[0].Num = k.Ports[1].Num
	if p, ok := program.Of(rows(), k); ok || p != nil {
		t.Errorf("keys that are not right")
	}
	if p, ok := program.Of(nil, api.Keys{}); !ok || len(p.At(0)) != 0 {
		t.Errorf("no rows")
	}
}
