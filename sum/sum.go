// Package sum is layer 1: check sums, and the hash by which a way is picked. See shared/doc/01-sum.md.
package sum

// The start and the factor of FNV-1a of 32 bits.
const (
	hashStart  = 2166136261
	hashFactor = 16777619
)

// Sum is the sum with carry of b's words; a last byte alone is the higher one of its word.
func Sum(b []byte) uint16 {
	var total uint64
	at := 0
next:
	switch len(b) - at {
	case 0:
		return fold(total)
	case 1:
		return fold(total + uint64(b[at])<<8)
	}
	total += uint64(b[at])<<8 | uint64(b[at+1])
	at += 2
	goto next
}

// Add is the sum with carry of two words.
func Add(a, b uint16) uint16 {
	return fold(uint64(a) + uint64(b))
}

// Check is the check sum of b.
func Check(b []byte) uint16 {
	return ^Sum(b)
}

// Update is a check sum behind the change of one word from old to now. It adds the turned old word
// instead of taking old away (RFC 1624), for that alone keeps the forms of 0 right.
func Update(check, old, now uint16) uint16 {
	return ^Add(Add(^check, ^old), now)
}

// Pseudo is the sum of an IPv4 pseudo head, without its bits turned: the sum of what follows is added to it.
func Pseudo(src, dst uint32, proto, size int) uint16 {
	words := func(v uint32) uint64 { return uint64(v>>16) + uint64(v&0xffff) }
	return fold(words(src) + words(dst) + uint64(proto&0xff) + uint64(size&0xffff))
}

// Hash is FNV-1a of 32 bits over the 13 bytes that tell a flow.
func Hash(src, dst uint32, proto, sport, dport int) uint32 {
	hash := uint32(hashStart)
	mix := func(b byte) { hash = (hash ^ uint32(b)) * hashFactor }
	mixWord := func(v int) {
		mix(byte(v >> 8))
		mix(byte(v))
	}
	mixAddr := func(v uint32) {
		mixWord(int(v >> 16))
		mixWord(int(v & 0xffff))
	}
	mixAddr(src)
	mixAddr(dst)
	mix(byte(proto))
	mixWord(sport)
	mixWord(dport)
	return hash
}

// Pick is hash modulo n; 0, where there is nothing to pick from.
func Pick(hash uint32, n int) int {
	if n < 1 {
		return 0
	}
	// In 64 bits: n may be greater than any hash.
	return int(uint64(hash) % uint64(n))
}

// fold adds what goes beyond 16 bits again, till nothing does. A total of 64 bits has room for the
// words of any list, so that carries may wait till the end.
func fold(total uint64) uint16 {
again:
	if total > 0xffff {
		total = total>>16 + total&0xffff
		goto again
	}
	return uint16(total)
}
