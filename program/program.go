// Package program is hosts' programs: the flows of a network that all hosts share, and those that each has of its own.
// It is no layer, but what those share that make programs and keep them.
package program

import (
	"slices"

	"skein/api"
	"skein/flow"
	"skein/lrt"
	"skein/lsw"
	"skein/network"
)

// The tables of a switch that hosts have flows of their own in, and that where a frame comes in that is to go out.
const (
	tableOut     = 9
	tableOutLook = 10
	tableOutput  = 13
)

// Programs is those of all hosts of a network.
type Programs struct {
	network *network.Network
	shared  []api.Flow
}

// Of is the programs of rows with keys: false, if rows are not well formed, or keys are not right, or lack a name.
func Of(rows []api.Row, k api.Keys) (*Programs, bool) {
	n, ok := network.Numbered(rows, k)
	if !ok {
		return nil, false
	}
	return &Programs{network: n, shared: sharedOf(n, k)}, true
}

// sharedOf is the flows of all switches and routers.
func sharedOf(n *network.Network, k api.Keys) []api.Flow {
	var all []api.Flow
	each := func(kind int, flowsOf func(name string) []api.Flow) {
		for _, r := range n.Owned(kind, network.Nobody) {
			all = append(all, flowsOf(r.Name)...)
		}
	}
	// From all rows the layers below would tell the same; but each time they would check all of them.
	each(api.RowSwitch, func(name string) []api.Flow { return lsw.Compile(n.SwitchRows(name), k, name) })
	each(api.RowRouter, func(name string) []api.Flow { return lrt.Compile(n.RouterRows(name), k, name) })
	return all
}

// Shared is the flows that all hosts share.
func (p *Programs) Shared() []api.Flow {
	return p.shared
}

// Own is the flows that a host has of its own: a frame for a VIF goes out here, or to the host where it does. No flow
// that hosts share is like one of these.
func (p *Programs) Own(host int) []api.Flow {
	var out []api.Flow
	for _, r := range p.network.Owned(api.RowSwitch, network.Nobody) {
		out = append(out, p.ends(r.Name, host)...)
	}
	return out
}

// At is all flows of a host.
func (p *Programs) At(host int) []api.Flow {
	return slices.Concat(p.shared, p.Own(host))
}

// ends is the flows of a switch's VIFs that are bound.
func (p *Programs) ends(name string, host int) []api.Flow {
	b := flow.Of(p.network.Key(api.RowSwitch, name))
	leave, output := b.Table(tableOut), b.Table(tableOutput)
	for _, q := range p.network.Ports(name) {
		bind, ok := p.network.Find(api.RowBind, q.Name)
		if !ok {
			continue
		}
		to := flow.When(flow.Is(api.OutPort, q.Key))
		if bind.Num != host {
			leave(50, to, api.Act{Kind: api.ActTunnel, Port: bind.Num})
			continue
		}
		leave(50, to, forgetting()...)
		output(50, to, api.Act{Kind: api.ActOutput, Port: q.Key})
	}
	return b.Flows()
}

// forgetting has a frame go on as one that came by a tunnel would: nothing is known of it but where it came in, and
// where it goes out.
func forgetting() []api.Act {
	var out []api.Act
	for _, f := range []int{api.CtState, api.Reg0, api.Reg1, api.Reg2, api.Reg3} {
		out = append(out, flow.Set(f, 0))
	}
	return append(out, flow.GoTo(tableOutLook))
}
