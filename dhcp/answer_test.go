package dhcp_test

import (
	"math"
	"math/rand"
	"slices"
	"testing"

	"skein/api"
	"skein/dhcp"
)

var lease = api.Lease{Mac: 0x020000000001, Ip: 0x0a000005, Server: 0x0a0000fe, Mask: 0xffffff00, Router: 0x0a0000fd, Time: 0x00015180}

// asked is a message of the lease's port with some options.
func asked(options ...api.Option) api.Dhcp {
	return api.Dhcp{
		Op: 1, Xid: 0x01020304, Secs: 5, Flags: 0x8000, Ciaddr: 6, Yiaddr: 7, Siaddr: 8, Giaddr: 0x0b000001,
		Chaddr: lease.Mac, Options: options,
	}
}

func option(code int, data string) api.Option {
	return api.Option{Code: code, Data: data}
}

var discover, request = option(53, "\x01"), option(53, "\x03")

// given is the answer that the lease's network gives, of a type.
func given(kind string) api.Dhcp {
	return api.Dhcp{
		Op: 2, Xid: 0x01020304, Flags: 0x8000, Yiaddr: 0x0a000005, Siaddr: 0x0a0000fe, Giaddr: 0x0b000001, Chaddr: lease.Mac,
		Options: []api.Option{
			option(53, kind), option(54, "\x0a\x00\x00\xfe"), option(51, "\x00\x01\x51\x80"),
			option(1, "\xff\xff\xff\x00"), option(3, "\x0a\x00\x00\xfd"),
		},
	}
}

func answers(t *testing.T, what string, m api.Dhcp, l api.Lease, want api.Dhcp) {
	t.Helper()
	if a, ok := dhcp.Answer(m, l); !same(a, want) || !ok {
		t.Errorf("%s: %#v, %v", what, a, ok)
	}
}

// silent asks that Answer answers false, and nothing beside it.
func silent(t *testing.T, what string, m api.Dhcp, l api.Lease) {
	t.Helper()
	if a, ok := dhcp.Answer(m, l); !same(a, api.Dhcp{}) || ok {
		t.Errorf("%s: %#v, %v", what, a, ok)
	}
}

// P6.3
func TestAnswer(t *testing.T) {
	answers(t, "a discover", asked(discover), lease, given("\x02")) // the document's example
	answers(t, "a request", asked(request), lease, given("\x05"))
	answers(t, "a discover behind others", asked(option(12, "name"), option(55, "\x01\x03"), discover), lease, given("\x02"))
	answers(t, "the first of two types", asked(discover, request), lease, given("\x02"))
	answers(t, "the first of two types", asked(request, discover), lease, given("\x05"))
}

// P6.3
func TestAnswerToOthers(t *testing.T) {
	for _, kind := range []api.Option{discover, request} {
		for _, op := range []int{0, 2, 3, -1, 257} {
			m := asked(kind)
			m.Op = op
			silent(t, "Op", m, lease)
		}
		for _, mac := range []uint64{0, lease.Mac + 1, lease.Mac ^ 1<<47, lease.Mac | 1<<48} {
			m := asked(kind)
			m.Chaddr = mac
			silent(t, "Chaddr", m, lease)
			l := lease
			l.Mac = mac
			silent(t, "Mac", asked(kind), l)
		}
	}
	silent(t, "no options", asked(), lease)
	silent(t, "no type", asked(option(50, "\x01"), option(54, "\x03")), lease)
	for kind := range 256 {
		if kind != 1 && kind != 3 {
			silent(t, "another type", asked(option(53, string([]byte{byte(kind)}))), lease)
		}
	}
	for _, data := range []string{"", "\x01\x00", "\x00\x01", "\x03\x03", "\x00\x00\x00\x01"} {
		silent(t, "a type of another length", asked(option(53, data)), lease)
	}
}

// P6.3: a request for another address, or of another server.
func TestAnswerAsked(t *testing.T) {
	own := map[int]string{50: "\x0a\x00\x00\x05", 54: "\x0a\x00\x00\xfe"}
	others := []string{"\x0a\x00\x00\x06", "\x00\x00\x00\x00", "\xff\xff\xff\xff", "\x05\x00\x00\x0a", "\x0b\x00\x00\x05", "\x0a\x01\x00\x05", "\x0a\x00\x01\xfe"}
	lengths := []string{"", "\x01", "\x0a\x00\x00", "\x0a\x00\x00\x06\x00", "\x00\x0a\x00\x00\x06", "\x01\x02\x03\x04\x05\x06\x07\x08"}
	for code, data := range own {
		answers(t, "the same", asked(request, option(code, data)), lease, given("\x05"))
		answers(t, "the same, ahead of the type", asked(option(code, data), request), lease, given("\x05"))
		for _, data := range others {
			silent(t, "another one", asked(request, option(code, data)), lease)
			silent(t, "another one, ahead of the type", asked(option(code, data), request), lease)
			answers(t, "another one in a discover", asked(discover, option(code, data)), lease, given("\x02"))
		}
		for _, data := range lengths {
			answers(t, "another length", asked(request, option(code, data)), lease, given("\x05"))
			answers(t, "another length", asked(discover, option(code, data)), lease, given("\x02"))
		}
	}
	answers(t, "both", asked(request, option(50, own[50]), option(54, own[54])), lease, given("\x05"))
	silent(t, "both exchanged", asked(request, option(50, own[54]), option(54, own[50])), lease)
	silent(t, "another server", asked(request, option(50, own[50]), option(54, others[0])), lease)
	silent(t, "another address", asked(request, option(50, others[0]), option(54, own[54])), lease)
	answers(t, "another option", asked(request, option(51, others[0]), option(3, others[0])), lease, given("\x05"))
}

// P6.3: a Router of 0 is none; all else of a lease may be 0.
func TestAnswerOfLeases(t *testing.T) {
	l := lease
	l.Router = 0
	want := given("\x02")
	want.Options = want.Options[:4]
	answers(t, "no router", asked(discover), l, want)

	none := "\x00\x00\x00\x00"
	m := asked(request)
	m.Chaddr, m.Flags, m.Giaddr, m.Xid = 0, 0, 0, 0
	answers(t, "noughts", m, api.Lease{}, api.Dhcp{Op: 2, Options: []api.Option{
		option(53, "\x05"), option(54, none), option(51, none), option(1, none),
	}})

	all := "\xff\xff\xff\xff"
	m.Chaddr, m.Flags, m.Giaddr, m.Xid = api.MaxMac, 65535, math.MaxUint32, math.MaxUint32
	answers(t, "the greatest", m,
		api.Lease{Mac: api.MaxMac, Ip: math.MaxUint32, Server: math.MaxUint32, Mask: math.MaxUint32, Router: math.MaxUint32, Time: math.MaxUint32},
		api.Dhcp{
			Op: 2, Xid: math.MaxUint32, Flags: 65535, Yiaddr: math.MaxUint32, Siaddr: math.MaxUint32, Giaddr: math.MaxUint32, Chaddr: api.MaxMac,
			Options: []api.Option{option(53, "\x05"), option(54, all), option(51, all), option(1, all), option(3, all)},
		})
}

// P6.3, P6.4: an answer has bytes, and asks for no answer itself.
func TestAnswersAreMessages(t *testing.T) {
	r := rand.New(rand.NewSource(3))
	for range 500 {
		m := randomMessage(r)
		m.Op = 1
		m.Options = append([]api.Option{discover}, m.Options...)
		l := api.Lease{Mac: m.Chaddr, Ip: r.Uint32(), Server: r.Uint32(), Mask: r.Uint32(), Router: r.Uint32(), Time: r.Uint32()}
		a, ok := dhcp.Answer(m, l)
		if !ok {
			t.Fatalf("%#v", m)
		}
		b, e := dhcp.Encode(a)
		if e != api.OK {
			t.Errorf("%#v: %d", a, e)
		}
		reads(t, "an answer", b, a)
		silent(t, "an answer", a, l)
	}
}

// R3
func TestAnswerKeepsNothing(t *testing.T) {
	m := asked(request, option(50, "\x0a\x00\x00\x05"))
	before := slices.Clone(m.Options)
	a, _ := dhcp.Answer(m, lease)
	b, _ := dhcp.Answer(m, lease)
	if !slices.Equal(m.Options, before) {
		t.Errorf("changed: %v", m.Options)
	}
	a.Options = a.Options[:cap(a.Options)]
	for i := range a.Options {
		a.Options[i] = api.Option{}
	}
	if !same(b, given("\x05")) || !slices.Equal(m.Options, before) {
		t.Errorf("%#v", b)
	}
}
