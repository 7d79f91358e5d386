package pulse

import "skein/api"

// quarters is how many quarter turns are a whole one.
const quarters = 4

// Beat is the sum of the counts, each turned by as much as its tick is of a period.
func (p *Pulse) Beat(period int) (complex128, api.Errno) {
	if !p.isMade() {
		return 0, api.ErrClosed
	}
	if period != 1 && period != 2 && period != 4 {
		return 0, api.ErrArg
	}
	var beat complex128
	for k := range quarters {
		// Ticks that are four apart are turned alike. Sums of counts are whole numbers below 2^41: each is exact.
		beat += Turn(complex(float64(p.Fourth(k)), 0), k*quarters/period)
	}
	return beat, api.OK
}

// Power is the square of how great a beat is.
func (p *Pulse) Power(period int) (float64, api.Errno) {
	beat, fault := p.Beat(period)
	if fault != api.OK {
		return 0, fault
	}
	// What is converted is rounded: it can't be added to the other square ahead of that.
	return float64(real(beat)*real(beat)) + float64(imag(beat)*imag(beat)), api.OK
}

// Turn is a number times i to the power n. Parts change places, instead of being multiplied by noughts: so one that is
// infinite stays so.
func Turn(z complex128, n int) complex128 {
	// The last two bits of a number below 0 are those that it has with 4 added until it is none.
	for range n & (quarters - 1) {
		z = complex(-imag(z), real(z))
	}
	return complex(unsigned(real(z)), unsigned(imag(z)))
}

// unsigned is a number, without the sign of a nought.
func unsigned(x float64) float64 {
	if x == 0 {
		return 0
	}
	return x
}
