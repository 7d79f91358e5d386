package keys

const mostPort = 65535

// pool is a row of numbers, from 1 to the most, and which of them are had.
type pool struct {
	had  map[int]struct{}
	most int
}

func newPool(most int) pool {
	return pool{had: map[int]struct{}{}, most: most}
}

// take has a number: false, if it is none of the row, or another one has it.
func (p pool) take(n int) bool {
	if _, ok := p.had[n]; ok || n < 1 || n > p.most {
		return false
	}
	p.had[n] = struct{}{}
	return true
}

// rising is a function that takes the least number that none has. No number comes to be free again: each call goes
// on where the last one ended.
func (p pool) rising() func() (int, bool) {
	last := 0
	return func() (int, bool) {
		for last < p.most {
			last++
			if p.take(last) {
				return last, true
			}
		}
		return 0, false
	}
}
