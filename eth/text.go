package eth

import "strconv"

const (
	hexDigits   = "0123456789abcdef"
	macTextSize = len("00:00:00:00:00:00")
	addrParts   = 4
)

// Mac is the address whose text s is.
func Mac(s string) (uint64, bool) {
	var mac uint64
	at := 0
	if len(s) != macTextSize {
		goto refused
	}
next:
	if at%3 == 2 {
		if s[at] != ':' {
			goto refused
		}
	} else {
		digit, ok := hexDigit(s[at])
		if !ok {
			goto refused
		}
		mac = mac<<4 | digit
	}
	at++
	if at < len(s) {
		goto next
	}
	return mac, true
refused:
	return 0, false
}

// MacText is the text of an address's lowest 48 bits.
func MacText(mac uint64) string {
	out := make([]byte, 0, macTextSize)
	putPair := func(b byte) { out = append(out, hexDigits[b>>4], hexDigits[b&15]) }
	putPair(byte(mac >> 40))
	for shift := 32; shift >= 0; shift -= 8 {
		out = append(out, ':')
		putPair(byte(mac >> shift))
	}
	return string(out)
}

// Addr is the IPv4 address whose text s is.
func Addr(s string) (uint32, bool) {
	var ip uint32
	at, parts := 0, 0
next:
	value, size := octet(s[at:])
	if size == 0 {
		return 0, false
	}
	ip = ip<<8 | value
	at += size
	parts++
	if parts == addrParts && at == len(s) {
		return ip, true
	}
	if parts == addrParts || at == len(s) || s[at] != '.' {
		return 0, false
	}
	at++
	goto next
}

// AddrText is the text of an IPv4 address.
func AddrText(ip uint32) string {
	part := func(shift int) string { return strconv.Itoa(int(ip >> shift & 0xff)) }
	return part(24) + "." + part(16) + "." + part(8) + "." + part(0)
}

// octet reads a number from 0 to 255 without noughts ahead at the beginning of s, and answers how many
// digits it has: 0, if none stands there. Three digits are looked at, so that no number grows too great.
func octet(s string) (value uint32, size int) {
next:
	if size < len(s) && size < 3 && '0' <= s[size] && s[size] <= '9' {
		value = value*10 + uint32(s[size]-'0')
		size++
		goto next
	}
	if value > 255 || size > 1 && s[0] == '0' {
		return 0, 0
	}
	return value, size
}

// hexDigit refuses A to F: an address has one text.
func hexDigit(c byte) (uint64, bool) {
	switch {
	case '0' <= c && c <= '9':
		return uint64(c - '0'), true
	case 'a' <= c && c <= 'f':
		return uint64(c-'a') + 10, true
	}
	return 0, false
}
