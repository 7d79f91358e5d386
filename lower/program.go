package lower

import (
	"skein/api"
	"skein/flow"
	"skein/lrt"
	"skein/lsw"
	"skein/network"
)

// The tables of a switch that hosts have flows of their own in, and that where a frame comes in that is to go out.
const (
	tableOut     = 9
	tableOutLook = 10
	tableOutput  = 13
)

// program is a network, as a host sees it.
type program struct {
	*network.Network
	keys api.Keys
	host int
}

// flows is the flows of all switches and routers, and those of the ports that are bound.
func (p *program) flows() []api.Flow {
	var all []api.Flow
	each := func(kind int, flowsOf func(name string) []api.Flow) {
		for _, r := range p.Owned(kind, network.Nobody) {
			all = append(all, flowsOf(r.Name)...)
		}
	}
	// From all rows the layers below would tell the same; but each time they would check all of them.
	each(api.RowSwitch, func(name string) []api.Flow { return lsw.Compile(p.SwitchRows(name), p.keys, name) })
	each(api.RowRouter, func(name string) []api.Flow { return lrt.Compile(p.RouterRows(name), p.keys, name) })
	each(api.RowSwitch, p.ends)
	return flow.Sorted(all)
}

// ends is the flows of a switch's VIFs that are bound: a frame goes out here, or to the host where it does.
func (p *program) ends(name string) []api.Flow {
	b := flow.Of(p.Key(api.RowSwitch, name))
	leave, output := b.Table(tableOut), b.Table(tableOutput)
	for _, q := range p.Ports(name) {
		bind, ok := p.Find(api.RowBind, q.Name)
		if !ok {
			continue
		}
		to := flow.When(flow.Is(api.OutPort, q.Key))
		if bind.Num != p.host {
			leave(50, to, api.Act{Kind: api.ActTunnel, Port: bind.Num})
			continue
		}
		leave(50, to, forgetting()...)
		output(50, to, api.Act{Kind: api.ActOutput, Port: q.Key})
	}
	return b.Flows()
}

// forgetting has a frame go on as one that came by a tunnel would: nothing is known of it but where it came in, and
// where it goes out.
func forgetting() []api.Act {
	var out []api.Act
	for _, f := range []int{api.CtState, api.Reg0, api.Reg1, api.Reg2, api.Reg3} {
		out = append(out, flow.Set(f, 0))
	}
	return append(out, flow.GoTo(tableOutLook))
}
