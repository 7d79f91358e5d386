package fabric_test

import (
	"testing"

	"skein/api"
	"skein/fabric"
	"skein/packet"
)

const (
	all8  = 1<<8 - 1
	all16 = 1<<16 - 1
	all17 = 1<<17 - 1
	all24 = 1<<24 - 1
	all32 = 1<<32 - 1
)

func set(f int, value, mask uint64) api.Act {
	return api.Act{Kind: api.ActSet, Field: f, Value: value, Mask: mask}
}

func goTo(table int) api.Act { return api.Act{Kind: api.ActGo, Table: table} }

func output(port int) api.Act { return api.Act{Kind: api.ActOutput, Port: port} }

func tunnel(host int) api.Act { return api.Act{Kind: api.ActTunnel, Port: host} }

func clone(l ...api.Act) api.Act { return api.Act{Kind: api.ActClone, Acts: l} }

func look(zone int) api.Act { return api.Act{Kind: api.ActCtLook, Port: zone} }

func commit(zone int) api.Act { return api.Act{Kind: api.ActCtCommit, Port: zone} }

// always is a flow that all packets find in a table, if they find no other one there.
func always(table int, l ...api.Act) api.Flow { return api.Flow{Table: table, Acts: l} }

// when is a flow of packets with these terms.
func when(table int, terms []api.Term, l ...api.Act) api.Flow {
	return api.Flow{Table: table, Priority: 1, Terms: terms, Acts: l}
}

func term(f int, value, mask uint64) api.Term { return api.Term{Field: f, Value: value, Mask: mask} }

// programs is hosts' flows.
type programs map[int][]api.Flow

func fabricOf(t *testing.T, room int, places []api.Place, l programs) *fabric.Fabric {
	t.Helper()
	f, e := fabric.New(room)
	if e != api.OK || f == nil {
		t.Fatalf("New: %d", e)
	}
	if e := f.Places(places); e != api.OK {
		t.Fatalf("Places: %d", e)
	}
	for host, flows := range l {
		if e := f.Install(host, flows); e != api.OK {
			t.Fatalf("Install: %d", e)
		}
	}
	return f
}

// two is a port on the host 0, and one on the host 1.
func two() []api.Place {
	return []api.Place{{Name: "a", Key: 1, Dp: 5, Host: 0}, {Name: "b", Key: 2, Dp: 6, Host: 1}}
}

func printed(t *testing.T, p api.Packet) []byte {
	t.Helper()
	b, e := packet.Print(p)
	if e != api.OK {
		t.Fatalf("Print: %d", e)
	}
	return b
}

// plain is a packet of no known type.
func plain(body string) api.Packet {
	return api.Packet{Eth: api.Eth{Dst: 0x0b, Src: 0x0a, Type: 0x86dd}, Body: body}
}

func udp(from, to uint32, sport, dport int) api.Packet {
	return api.Packet{Eth: api.Eth{Dst: 0x0b, Src: 0x0a, Type: api.TypeIp}, IsIp: true, Ip: api.Ip{Ttl: 9, Proto: api.ProtoUdp, Src: from, Dst: to}, L4: api.L4{Kind: api.KindUdp, Sport: sport, Dport: dport, Data: "data"}}
}

// back is the answer to a packet.
func back(p api.Packet) api.Packet {
	p.Ip.Src, p.Ip.Dst = p.Ip.Dst, p.Ip.Src
	p.L4.Sport, p.L4.Dport = p.L4.Dport, p.L4.Sport
	return p
}

// told is all that Inject tells.
type told struct {
	out   []api.Emission
	wires []api.Wire
	goes  int
	e     api.Errno
}

func inject(f *fabric.Fabric, port string, frame []byte) told {
	out, wires, goes, e := f.Inject(port, frame)
	return told{out, wires, goes, e}
}

// ways is from which host to which one packets went.
func (x told) ways() [][2]int {
	var l [][2]int
	for _, w := range x.wires {
		l = append(l, [2]int{w.From, w.To})
	}
	return l
}

// ports is where frames came out.
func (x told) ports() []string {
	var l []string
	for _, e := range x.out {
		l = append(l, e.Port)
	}
	return l
}
