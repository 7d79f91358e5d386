package lsw

import (
	"testing"

	"skein/api"
	"skein/match"
)

// P20.1: a match with which the datapath can't be, or whose fields no one frame has, makes no flow. (No text of an
// ACL has such a one: it is asked from inside.)
func TestBuilderLeavesOut(t *testing.T) {
	b := &builder{datapath: 5}
	put := b.table(3)
	put(7, when(is(api.Datapath, 6)), goTo(4))
	put(7, when(under(api.Datapath, 2, 2)), goTo(4))
	put(7, when(is(api.IpTtl, 1), is(api.ArpOp, 1)), goTo(4))
	if l := b.flows(); len(l) != 0 {
		t.Errorf("%+v", l)
	}
	put(7, when(under(api.Datapath, 4, 6)), goTo(4))
	put(7, when(is(api.InPort, 2), is(api.ArpOp, 1)), goTo(4))
	l := b.flows()
	if len(l) != 2 || match.Text(l[0].Terms) != "datapath == 0x5" || match.Text(l[1].Terms) != "eth.type == 0x806 && arp.op == 0x1 && datapath == 0x5 && inport == 0x2" {
		t.Errorf("%+v", l)
	}
}
