// Package eth is layer 2: frames' heads, tags, ARP. See shared/doc/02-eth.md.
package eth

import (
	"skein/api"
	"skein/octets"
)

// How many bytes things have.
const (
	macSize    = 6
	ipSize     = 4
	wordSize   = 2
	wordBits   = 8 * wordSize
	plainHead  = 2*macSize + wordSize
	taggedHead = plainHead + 2*wordSize
	arpSize    = len(arpForm) + wordSize + 2*(macSize+ipSize)
)

// arpForm is how an ARP packet for Ethernet and IPv4 begins: both kinds of addresses, and their bytes.
const arpForm = "\x00\x01\x08\x00\x06\x04"

// Head reads a frame's head, and answers how many bytes it has.
func Head(b []byte) (api.Eth, int, api.Errno) {
	var h api.Eth
	at := 0
	take := func(size int) uint64 {
		at += size
		return octets.Number(b[at-size : at])
	}
	fault := api.ErrShort
	if len(b) > api.MaxFrame {
		fault = api.ErrLong
		goto refused
	}
	if len(b) < plainHead {
		goto refused
	}
	h.Dst, h.Src = take(macSize), take(macSize)
readType:
	h.Type = int(take(wordSize))
	if h.Type != api.TypeVlan {
		return h, at, api.OK
	}
	if h.Tagged {
		fault = api.ErrForm
		goto refused
	}
	if len(b) < taggedHead {
		goto refused
	}
	h.Tagged, h.Tag = true, int(take(wordSize))
	goto readType
refused:
	return api.Eth{}, 0, fault
}

// EncodeHead is a head's bytes.
func EncodeHead(h api.Eth) ([]byte, api.Errno) {
	if !headFits(h) {
		return nil, api.ErrArg
	}
	out := make([]byte, 0, taggedHead)
	put := func(v uint64, size int) { out = octets.Append(out, v, size) }
	put(h.Dst, macSize)
	put(h.Src, macSize)
	if h.Tagged {
		put(api.TypeVlan, wordSize)
		put(uint64(h.Tag), wordSize)
	}
	put(uint64(h.Type), wordSize)
	return out, api.OK
}

// headFits tells whether a head's numbers have room, and its bytes would be read back as the same head.
func headFits(h api.Eth) bool {
	if h.Dst > api.MaxMac || h.Src > api.MaxMac || !octets.Fits(h.Tag, wordBits) || !octets.Fits(h.Type, wordBits) {
		return false
	}
	return h.Type != api.TypeVlan && (h.Tagged || h.Tag == 0)
}

// Arp reads an ARP packet; what stands behind it, such as a short frame's padding, plays no part.
func Arp(b []byte) (api.Arp, api.Errno) {
	var a api.Arp
	at := len(arpForm)
	take := func(size int) uint64 {
		at += size
		return octets.Number(b[at-size : at])
	}
	fault := api.ErrShort
	if len(b) < arpSize {
		goto refused
	}
	if string(b[:at]) != arpForm {
		fault = api.ErrForm
		goto refused
	}
	a.Op = int(take(wordSize))
	a.Sha, a.Spa = take(macSize), uint32(take(ipSize))
	a.Tha, a.Tpa = take(macSize), uint32(take(ipSize))
	return a, api.OK
refused:
	return api.Arp{}, fault
}

// EncodeArp is an ARP packet's bytes.
func EncodeArp(a api.Arp) ([]byte, api.Errno) {
	if a.Sha > api.MaxMac || a.Tha > api.MaxMac || !octets.Fits(a.Op, wordBits) {
		return nil, api.ErrArg
	}
	out := make([]byte, 0, arpSize)
	out = append(out, arpForm...)
	put := func(v uint64, size int) { out = octets.Append(out, v, size) }
	put(uint64(a.Op), wordSize)
	put(a.Sha, macSize)
	put(uint64(a.Spa), ipSize)
	put(a.Tha, macSize)
	put(uint64(a.Tpa), ipSize)
	return out, api.OK
}

// Multicast tells whether an address is one of a group: the first bit on the wire says so.
func Multicast(mac uint64) bool {
	return mac>>40&1 == 1
}
