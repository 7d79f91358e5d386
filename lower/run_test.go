package lower_test

import (
	"cmp"
	"slices"
	"testing"

	"skein/api"
	"skein/ct"
	"skein/dpath"
	"skein/keys"
	"skein/lower"
	"skein/packet"
)

// hosts is programs, each with its connections, and tunnels between them.
type hosts struct {
	rows     []api.Row
	k        api.Keys
	programs map[int]*dpath.Program
	tracks   map[int]*ct.Table
	tunnels  int // packets that went between hosts
}

func hostsOf(t *testing.T, rows []api.Row) *hosts {
	t.Helper()
	k, e := keys.Update(netKeys(), rows)
	if e != api.OK {
		t.Fatalf("keys: %d", e)
	}
	h := &hosts{rows: rows, k: k, programs: map[int]*dpath.Program{}, tracks: map[int]*ct.Table{}}
	for _, host := range lower.Hosts(rows) {
		h.programs[host], e = dpath.New(lower.Program(rows, k, host))
		if e != api.OK {
			t.Fatalf("New: %d", e)
		}
		h.tracks[host], _ = ct.New(8)
	}
	return h
}

// out is a packet that came out at a port.
type out struct {
	port string
	p    api.Packet
}

// enter has a frame come in at a bound VIF: what comes out, by the ports' names.
func (h *hosts) enter(t *testing.T, port string, p api.Packet) []out {
	t.Helper()
	at := slices.IndexFunc(h.rows, func(r api.Row) bool { return r.Kind == api.RowPort && r.Name == port })
	dp, _ := keys.Find(h.k.Switches, h.rows[at].Owner)
	in, _ := keys.Find(h.k.Ports, port)
	host, ok := lower.Where(h.rows, port)
	if !ok {
		t.Fatalf("%s is not bound", port)
	}
	all := h.run(t, host, 0, api.State{P: p, Dp: dp, In: in})
	slices.SortStableFunc(all, func(a, b out) int { return cmp.Compare(a.port, b.port) })
	return all
}

// run runs a host's program. What it tells other hosts is the frame, the datapath, the ports.
func (h *hosts) run(t *testing.T, host, table int, s api.State) []out {
	t.Helper()
	sent, _, e := h.programs[host].Run(h.tracks[host], table, s)
	if e != api.OK {
		t.Errorf("Run: %d", e)
	}
	var all []out
	for _, x := range sent {
		if x.Tunnel {
			h.tunnels++
			if table != 0 || x.Port == host || h.programs[x.Port] == nil {
				t.Fatalf("from host %d, table %d, to host %d", host, table, x.Port)
			}
			all = append(all, h.run(t, x.Port, 10, api.State{P: x.State.P, Dp: x.State.Dp, In: x.State.In, Out: x.State.Out})...)
			continue
		}
		name, _ := keys.Name(h.k.Ports, x.Port)
		if where, ok := lower.Where(h.rows, name); where != host || !ok {
			t.Errorf("out at %q, which is not on host %d", name, host)
		}
		all = append(all, out{name, x.State.P})
	}
	return all
}

func udp(src, dst uint64, from, to uint32, ttl int) api.Packet {
	return api.Packet{Eth: api.Eth{Src: src, Dst: dst, Type: api.TypeIp}, IsIp: true, Ip: api.Ip{Ttl: ttl, Proto: api.ProtoUdp, Src: from, Dst: to}, L4: api.L4{Kind: api.KindUdp, Sport: 1000, Dport: 53}}
}

// routed is a packet that routers have sent on, so many of them.
func routed(p api.Packet, src, dst uint64, hops int) api.Packet {
	p.Eth.Src, p.Eth.Dst = src, dst
	p.Ip.Ttl -= hops
	return p
}

// cases is frames that come in at a, and what comes out of them.
func cases(t *testing.T) map[string]struct {
	p    api.Packet
	want []out
} {
	a, b, c := addr(10, 0, 0, 1), addr(10, 0, 0, 2), addr(10, 0, 1, 1)
	plain := api.Packet{Eth: api.Eth{Src: 0x0a, Dst: 0x0b, Type: 0x86dd}, Body: "body"}
	many := api.Packet{Eth: api.Eth{Src: 0x0a, Dst: 1<<48 - 1, Type: 0x86dd}, Body: "body"}
	ping := udp(0x0a, 0x51, a, addr(10, 0, 1, 254), 5)
	ping.Ip.Proto, ping.L4 = api.ProtoIcmp, api.L4{Kind: api.KindIcmp, Type: 8}
	pong, _ := packet.Echo(ping)
	late, ok := packet.Error(udp(0x0a, 0x51, a, c, 1), 0x51, addr(10, 0, 0, 254), 11, 0)
	lost, is := packet.Error(udp(0x0a, 0x61, a, addr(10, 0, 9, 9), 5), 0x61, addr(10, 0, 0, 253), 3, 0)
	later, has := packet.Error(routed(udp(0x0a, 0x51, a, addr(99, 0, 0, 1), 2), 0x51, 0x61, 1), 0x61, addr(10, 0, 0, 253), 11, 0)
	if !ok || !is || !has {
		t.Fatal("no answers")
	}
	through := routed(udp(0x0a, 0x51, a, c, 9), 0x52, 0x0c, 1)
	through.Ip.Src = addr(10, 0, 1, 77)
	around := routed(udp(0x0a, 0x61, a, c, 9), 0x52, 0x0c, 2)
	around.Ip.Src = addr(10, 0, 1, 77)
	asked := udp(0x0a, 0x51, a, addr(10, 0, 0, 99), 9)
	picked := udp(0x0a, 0x0b, a, b, 9)
	picked.L4.Dport = 5353
	return map[string]struct {
		p    api.Packet
		want []out
	}{
		"to a VIF":                      {plain, []out{{"b", plain}}},
		"to many":                       {many, []out{{"b", many}}},
		"a ping of a router":            {ping, []out{{"a", pong}}},
		"time is up":                    {udp(0x0a, 0x51, a, c, 1), []out{{"a", late}}},
		"no way":                        {udp(0x0a, 0x61, a, addr(10, 0, 9, 9), 5), []out{{"a", lost}}},
		"through a router, with a NAT":  {udp(0x0a, 0x51, a, c, 9), []out{{"c", through}}},
		"through two routers":           {udp(0x0a, 0x61, a, c, 9), []out{{"c", around}}},
		"through a router, back":        {udp(0x0a, 0x51, a, b, 9), []out{{"b", routed(udp(0x0a, 0x51, a, b, 9), 0x51, 0x0b, 1)}}},
		"to one that is not bound":      {udp(0x0a, 0x51, a, addr(10, 0, 1, 2), 9), nil},
		"to nobody":                     {udp(0x0a, 0x51, a, addr(10, 0, 1, 3), 9), nil},
		"to a load balancer":            {asked, []out{{"b", picked}}},
		"time is up at the next router": {udp(0x0a, 0x51, a, addr(99, 0, 0, 1), 2), []out{{"a", routed(later, 0x51, 0x0a, 1)}}},
	}
}

// P22.1, P22.3: frames between hosts: the same comes out wherever ports are, and each goes by one tunnel at most.
func TestRuns(t *testing.T) {
	for _, on := range [][4]int{{0, 63, 0, 7}, {0, 0, 0, 0}, {1, 2, 3, 4}, {5, 4, 4, 4}, {63, 0, 63, 0}} {
		rows := net()
		for i, r := range rows {
			if r.Kind == api.RowBind {
				rows[i].Num = on[r.Name[0]-'a']
			}
		}
		for what, x := range cases(t) {
			h := hostsOf(t, rows)
			if got := h.enter(t, "a", x.p); !slices.Equal(got, x.want) {
				t.Errorf("%v: %s: %+v, not %+v", on, what, got, x.want)
			}
			far := 0
			for _, o := range x.want {
				if on[o.port[0]-'a'] != on[0] {
					far++
				}
			}
			if h.tunnels != far {
				t.Errorf("%v: %s: %d tunnels, not %d", on, what, h.tunnels, far)
			}
		}
	}
}

// P22.1: a host forgets what it knew of a frame ahead of its way out, as a tunnel does: what was committed where it came
// in is not where it goes out.
func TestForgets(t *testing.T) {
	for _, on := range []int{0, 5} {
		h := hostsOf(t, []api.Row{sw("s"), vif("a", "s", 0x0a, 1), vif("b", "s", 0x0b, 2), bind("a", 0), bind("b", on), acl("s", false, 1, "inport == a && udp", api.AclRelated)})
		if got := h.enter(t, "a", udp(0x0a, 0x0b, 1, 2, 9)); len(got) != 1 || got[0].port != "b" {
			t.Errorf("%+v", got)
		}
		a, _ := keys.Find(h.k.Ports, "a")
		b, _ := keys.Find(h.k.Ports, "b")
		if h.tracks[0].Count(a) != 1 || h.tracks[on].Count(b) != 0 {
			t.Errorf("on host %d: %d and %d connections", on, h.tracks[0].Count(a), h.tracks[on].Count(b))
		}
	}
}
