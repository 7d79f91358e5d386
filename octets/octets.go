// Package octets reads and writes the numbers of packets: those of all layers have their highest byte first.
package octets

// Number is the number that all of b stands for.
func Number(b []byte) uint64 {
	var v uint64
	for _, c := range b {
		v = v<<8 | uint64(c)
	}
	return v
}

// Word is the number of the 2 bytes from at on.
func Word(b []byte, at int) uint16 {
	return uint16(Number(b[at : at+2]))
}

// SetWord writes v into the 2 bytes from at on.
func SetWord(b []byte, at int, v uint16) {
	b[at], b[at+1] = byte(v>>8), byte(v)
}

// Append appends the lowest size bytes of v.
func Append(out []byte, v uint64, size int) []byte {
	for size > 0 {
		size--
		out = append(out, byte(v>>(8*size)))
	}
	return out
}

// Fits tells whether v is a number that has room in that many bits; none below 0 has.
func Fits(v int, bits uint) bool {
	return v>>bits == 0
}
