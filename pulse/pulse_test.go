package pulse_test

import (
	"math"
	"math/rand"
	"slices"
	"testing"

	"skein/api"
	"skein/pulse"
)

// of is a Pulse with counts that may be.
func of(t *testing.T, counts ...int) *pulse.Pulse {
	t.Helper()
	p, e := pulse.Of(counts)
	if e != api.OK || p == nil {
		t.Fatalf("Of(%v): %d", counts, e)
	}
	return p
}

// has asks for all counts of a Pulse.
func has(t *testing.T, what string, p *pulse.Pulse, want ...int) {
	t.Helper()
	if p.Ticks() != len(want) {
		t.Errorf("%s: %d ticks, not %d", what, p.Ticks(), len(want))
	}
	for tick, n := range want {
		if p.At(tick) != n {
			t.Errorf("%s: %d at tick %d, not %d", what, p.At(tick), tick, n)
		}
	}
}

// P26.1: a new one, counts, ticks, and counts again.
func TestCountAndTick(t *testing.T) {
	p := pulse.New()
	has(t, "new", p, 0)
	for _, n := range []int{2, 0, 3} {
		if e := p.Count(n); e != api.OK {
			t.Errorf("Count(%d): %d", n, e)
		}
	}
	has(t, "counted", p, 5)
	if e := p.Tick(1); e != api.OK {
		t.Errorf("Tick(1): %d", e)
	}
	has(t, "a tick more", p, 5, 0)
	p.Count(7)
	if e := p.Tick(3); e != api.OK {
		t.Errorf("Tick(3): %d", e)
	}
	p.Count(1)
	has(t, "three more", p, 5, 7, 0, 0, 1)
	if e := p.Tick(0); e != api.OK {
		t.Errorf("Tick(0): %d", e)
	}
	p.Count(1)
	has(t, "no tick more", p, 5, 7, 0, 0, 2)
}

// P26.1: counts up to MaxCount, and beyond.
func TestMostCount(t *testing.T) {
	p := pulse.New()
	for _, n := range []int{-1, math.MinInt} {
		if e := p.Count(n); e != api.ErrArg {
			t.Errorf("Count(%d): %d", n, e)
		}
	}
	for _, n := range []int{api.MaxCount + 1, math.MaxInt} {
		if e := p.Count(n); e != api.ErrFull {
			t.Errorf("Count(%d): %d", n, e)
		}
	}
	has(t, "refused", p, 0)
	if e := p.Count(api.MaxCount); e != api.OK {
		t.Errorf("Count(MaxCount): %d", e)
	}
	for _, n := range []int{1, api.MaxCount, math.MaxInt, math.MaxInt - api.MaxCount + 1} {
		if e := p.Count(n); e != api.ErrFull {
			t.Errorf("full: Count(%d): %d", n, e)
		}
	}
	if e := p.Count(0); e != api.OK {
		t.Errorf("full: Count(0): %d", e)
	}
	if e := p.Count(-1); e != api.ErrArg {
		t.Errorf("full: Count(-1): %d", e)
	}
	has(t, "full", p, api.MaxCount)
	// Each tick has its own count.
	p.Tick(1)
	if e := p.Count(api.MaxCount - 1); e != api.OK {
		t.Errorf("another tick: %d", e)
	}
	if e := p.Count(2); e != api.ErrFull {
		t.Errorf("another tick, two more: %d", e)
	}
	if e := p.Count(1); e != api.OK {
		t.Errorf("another tick, one more: %d", e)
	}
	has(t, "both", p, api.MaxCount, api.MaxCount)
}

// P26.1: ticks up to MaxTicks, and beyond.
func TestMostTicks(t *testing.T) {
	p := pulse.New()
	for _, n := range []int{-1, math.MinInt} {
		if e := p.Tick(n); e != api.ErrArg {
			t.Errorf("Tick(%d): %d", n, e)
		}
	}
	for _, n := range []int{api.MaxTicks, math.MaxInt} {
		if e := p.Tick(n); e != api.ErrFull {
			t.Errorf("Tick(%d): %d", n, e)
		}
	}
	has(t, "refused", p, 0)
	p.Count(4)
	if e := p.Tick(api.MaxTicks - 2); e != api.OK || p.Ticks() != api.MaxTicks-1 {
		t.Errorf("one less: %d, %d", e, p.Ticks())
	}
	if e := p.Tick(2); e != api.ErrFull || p.Ticks() != api.MaxTicks-1 {
		t.Errorf("one too many: %d, %d", e, p.Ticks())
	}
	if e := p.Tick(1); e != api.OK || p.Ticks() != api.MaxTicks {
		t.Errorf("the last one: %d, %d", e, p.Ticks())
	}
	if e := p.Tick(1); e != api.ErrFull || p.Tick(0) != api.OK || p.Tick(-1) != api.ErrArg || p.Ticks() != api.MaxTicks {
		t.Errorf("behind the last one: %d, %d", e, p.Ticks())
	}
	p.Count(5)
	if p.At(0) != 4 || p.At(1) != 0 || p.At(api.MaxTicks-1) != 5 || p.At(api.MaxTicks) != 0 {
		t.Errorf("At: %d, %d, %d, %d", p.At(0), p.At(1), p.At(api.MaxTicks-1), p.At(api.MaxTicks))
	}
	// 2^20 - 1 is a tick with a remainder of 3.
	if z, e := p.Beat(4); z != complex(4, -5) || e != api.OK {
		t.Errorf("Beat(4): %v, %d", z, e)
	}
}

// P26.1: a tick that was not.
func TestAtNone(t *testing.T) {
	p := of(t, 7, 8, 9)
	for _, tick := range []int{-1, 3, 4, math.MinInt, math.MaxInt} {
		if n := p.At(tick); n != 0 {
			t.Errorf("At(%d): %d", tick, n)
		}
	}
	has(t, "those that were", p, 7, 8, 9)
}

// P26.1: counts that may be, and that may not be.
func TestOf(t *testing.T) {
	for _, l := range [][]int{{0}, {api.MaxCount}, {0, api.MaxCount, 0}, make([]int, api.MaxTicks)} {
		p := of(t, l...)
		if p.Ticks() != len(l) || p.At(len(l)/2) != l[len(l)/2] {
			t.Errorf("%d ticks, not %d", p.Ticks(), len(l))
		}
	}
	for _, l := range [][]int{nil, {}, {-1}, {api.MaxCount + 1}, {0, 0, math.MinInt}, {math.MaxInt, 0}, {1, -1, 1}, make([]int, api.MaxTicks+1)} {
		if p, e := pulse.Of(l); p != nil || e != api.ErrArg {
			t.Errorf("of %d counts: %v, %d", len(l), p, e)
		}
	}
	// It goes on from the last one.
	p := of(t, 1, 2)
	p.Count(3)
	p.Tick(1)
	p.Count(4)
	has(t, "gone on", p, 1, 5, 4)
}

// P26.1, R3: what is handed in is not kept and not changed, nor what lies behind its end.
func TestApart(t *testing.T) {
	room := []int{1, 2, 3, 77}
	p := of(t, room[:3]...)
	room[0] = 9
	p.Count(5)
	p.Tick(1)
	p.Count(6)
	has(t, "the Pulse", p, 1, 2, 8, 6)
	if !slices.Equal(room, []int{9, 2, 3, 77}) {
		t.Errorf("what was handed in: %v", room)
	}
}

// isPlain tells whether no part of a number is -0.
func isPlain(z complex128) bool {
	return !(real(z) == 0 && math.Signbit(real(z))) && !(imag(z) == 0 && math.Signbit(imag(z)))
}

// P26.2: the beats of some counts, written out.
func TestBeats(t *testing.T) {
	for _, x := range []struct {
		counts []int
		beats  [3]complex128
		powers [3]float64
	}{
		{[]int{0}, [3]complex128{0, 0, 0}, [3]float64{0, 0, 0}},
		{[]int{3}, [3]complex128{3, 3, 3}, [3]float64{9, 9, 9}},
		{[]int{0, 3}, [3]complex128{3, -3, 3i}, [3]float64{9, 9, 9}},
		{[]int{0, 0, 3}, [3]complex128{3, 3, -3}, [3]float64{9, 9, 9}},
		{[]int{0, 0, 0, 3}, [3]complex128{3, -3, -3i}, [3]float64{9, 9, 9}},
		{[]int{0, 0, 0, 0, 3}, [3]complex128{3, 3, 3}, [3]float64{9, 9, 9}},
		{[]int{1, 2, 3, 4}, [3]complex128{10, -2, -2 - 2i}, [3]float64{100, 4, 8}},
		{[]int{5, 5, 5, 5}, [3]complex128{20, 0, 0}, [3]float64{400, 0, 0}},
		{[]int{1, 1, 2, 5, 8, 2, 1}, [3]complex128{20, 4, 6 - 2i}, [3]float64{400, 16, 40}},
		{[]int{1 << 20, 1, 0, 0, 1 << 20}, [3]complex128{2<<20 + 1, 2<<20 - 1, 2<<20 + 1i}, [3]float64{1<<42 + 1<<22 + 1, 1<<42 - 1<<22 + 1, 1<<42 + 1}},
	} {
		p := of(t, x.counts...)
		for i, period := range []int{1, 2, 4} {
			if z, e := p.Beat(period); z != x.beats[i] || e != api.OK || !isPlain(z) {
				t.Errorf("%v: Beat(%d): %v, %d", x.counts, period, z, e)
			}
			if w, e := p.Power(period); w != x.powers[i] || e != api.OK || w == 0 && math.Signbit(w) {
				t.Errorf("%v: Power(%d): %v, %d", x.counts, period, w, e)
			}
		}
	}
}

// P26.2: periods that there are not.
func TestPeriods(t *testing.T) {
	p := of(t, 1, 2, 3, 4, 5)
	for _, period := range []int{0, 3, 5, 6, 8, -1, -2, -4, math.MinInt, math.MaxInt} {
		if z, e := p.Beat(period); z != 0 || e != api.ErrArg {
			t.Errorf("Beat(%d): %v, %d", period, z, e)
		}
		if w, e := p.Power(period); w != 0 || e != api.ErrArg {
			t.Errorf("Power(%d): %v, %d", period, w, e)
		}
	}
}

// P26.2: as many and as great counts as there may be: all parts are exact, powers are rounded.
func TestGreatest(t *testing.T) {
	l := make([]int, api.MaxTicks)
	for i := range l {
		l[i] = api.MaxCount - i%2
	}
	p := of(t, l...)
	const half = api.MaxTicks / 2
	if z, e := p.Beat(1); z != half*(2*api.MaxCount-1) || e != api.OK {
		t.Errorf("Beat(1): %v, %d", z, e)
	}
	if z, e := p.Beat(2); z != half || e != api.OK {
		t.Errorf("Beat(2): %v, %d", z, e)
	}
	if z, e := p.Beat(4); z != 0 || e != api.OK || !isPlain(z) {
		t.Errorf("Beat(4): %v, %d", z, e)
	}
	for k := range 4 {
		if n := p.Fourth(k); n != half/2*(api.MaxCount-k%2) {
			t.Errorf("Fourth(%d): %d", k, n)
		}
	}
	// 2^20 ticks of 2^20, less one: its square has more bits than a float64.
	const root = float64(1<<40 - 1)
	l = slices.Repeat([]int{api.MaxCount}, api.MaxTicks)
	l[7]--
	if w, e := of(t, l...).Power(1); w != root*root || e != api.OK {
		t.Errorf("Power(1): %v, %d", w, e)
	}
}

// P26.2: each square is rounded, and then their sum. (Counts where the one rounding of all, or of one square and the sum,
// tells another number.)
func TestPowerIsRounded(t *testing.T) {
	chance := rand.New(rand.NewSource(26))
	unlike := 0
	for range 200 {
		// The greater one of the parts is of some 2^27 and more, so that squares have more than 53 bits.
		var re, im int
		l := make([]int, 2048)
		for i := range l {
			if i%4 < 2 {
				l[i] = chance.Intn(api.MaxCount + 1)
				re += l[i] * (1 - i%4)
				im += l[i] * (i % 4)
			}
		}
		a, b := float64(re), float64(im)
		squareA, squareB := float64(a*a), float64(b*b)
		want := squareA + squareB
		if math.FMA(a, a, squareB) != want || math.FMA(b, b, squareA) != want {
			unlike++
		}
		if w, e := of(t, l...).Power(4); w != want || e != api.OK {
			t.Errorf("%d, %d: Power %v, not %v", re, im, w, want)
		}
	}
	if unlike < 20 {
		t.Errorf("only %d counts where it matters how powers are rounded", unlike)
	}
}

// P26.2: every fourth count, and remainders that there are not.
func TestFourth(t *testing.T) {
	p := of(t, 1, 20, 300, 4000, 5, 60, 700)
	for k, want := range []int{6, 80, 1000, 4000} {
		if n := p.Fourth(k); n != want {
			t.Errorf("Fourth(%d): %d", k, n)
		}
	}
	for _, k := range []int{-1, 4, 5, -4, math.MinInt, math.MaxInt} {
		if n := p.Fourth(k); n != 0 {
			t.Errorf("Fourth(%d): %d", k, n)
		}
	}
	if p := of(t, 9); p.Fourth(0) != 9 || p.Fourth(1) != 0 || p.Fourth(3) != 0 {
		t.Errorf("of one tick")
	}
}

// P26.2: numbers with parts below, at, and above 0, turned by numbers of all remainders.
func TestTurn(t *testing.T) {
	for _, x := range []struct {
		z    complex128
		want [4]complex128
	}{
		{0, [4]complex128{}},
		{1, [4]complex128{1, 1i, -1, -1i}},
		{-2, [4]complex128{-2, -2i, 2, 2i}},
		{3i, [4]complex128{3i, -3, -3i, 3}},
		{-4i, [4]complex128{-4i, 4, 4i, -4}},
		{1 + 2i, [4]complex128{1 + 2i, -2 + 1i, -1 - 2i, 2 - 1i}},
		{-1 + 2i, [4]complex128{-1 + 2i, -2 - 1i, 1 - 2i, 2 + 1i}},
		{-1.5 - 2.25i, [4]complex128{-1.5 - 2.25i, 2.25 - 1.5i, 1.5 + 2.25i, -2.25 + 1.5i}},
		{1e308 - 5e-324i, [4]complex128{1e308 - 5e-324i, 5e-324 + 1e308i, -1e308 + 5e-324i, -5e-324 - 1e308i}},
	} {
		for _, n := range []int{0, 1, 2, 3, 4, 5, 6, 7, -1, -2, -3, -4, -5, -6, -7, -8, 1 << 40, 1<<40 + 3, -1<<40 - 1, math.MaxInt, math.MaxInt - 1, math.MinInt, math.MinInt + 1} {
			at := n % 4
			if at < 0 {
				at += 4
			}
			if z := pulse.Turn(x.z, n); z != x.want[at] || !isPlain(z) {
				t.Errorf("Turn(%v, %d): %v, not %v", x.z, n, z, x.want[at])
			}
		}
	}
}

// P26.2: no part is -0, whatever sign it had.
func TestTurnOfNoughts(t *testing.T) {
	minus := math.Copysign(0, -1)
	for _, re := range []float64{0, minus, 1, -1} {
		for _, im := range []float64{0, minus, 1, -1} {
			for n := range 8 {
				if z := pulse.Turn(complex(re, im), n-4); !isPlain(z) {
					t.Errorf("Turn(%v, %d): %v", complex(re, im), n-4, z)
				}
			}
		}
	}
}

// P26.2: a part that is infinite stays so, and the other one what it is.
func TestTurnOfTheInfinite(t *testing.T) {
	inf := math.Inf(1)
	for n, want := range []complex128{complex(inf, 2), complex(-2, inf), complex(-inf, -2), complex(2, -inf)} {
		if z := pulse.Turn(complex(inf, 2), n); z != want {
			t.Errorf("%d: %v, not %v", n, z, want)
		}
	}
	if z := pulse.Turn(complex(math.NaN(), 0), 3); real(z) != 0 || !isPlain(complex(real(z), 1)) || imag(z) == imag(z) {
		t.Errorf("no number: %v", z)
	}
}

// P26.3: of a nil one, and of one that no call made.
func TestNil(t *testing.T) {
	for _, p := range []*pulse.Pulse{nil, {}} {
		for _, n := range []int{-1, 0, 1, math.MaxInt} {
			if e := p.Count(n); e != api.ErrClosed {
				t.Errorf("Count(%d): %d", n, e)
			}
			if e := p.Tick(n); e != api.ErrClosed {
				t.Errorf("Tick(%d): %d", n, e)
			}
			if z, e := p.Beat(n); z != 0 || e != api.ErrClosed {
				t.Errorf("Beat(%d): %v, %d", n, z, e)
			}
			if w, e := p.Power(n); w != 0 || e != api.ErrClosed {
				t.Errorf("Power(%d): %v, %d", n, w, e)
			}
			if p.At(n) != 0 || p.Fourth(n) != 0 || p.Ticks() != 0 {
				t.Errorf("%d: %d, %d, %d", n, p.At(n), p.Fourth(n), p.Ticks())
			}
		}
	}
}

func conjugate(z complex128) complex128 {
	return complex(real(z), -imag(z))
}

// anyCounts is counts that may be.
func anyCounts(r *rand.Rand) []int {
	l := make([]int, 1+r.Intn(40))
	for i := range l {
		l[i] = []int{0, 1, r.Intn(100), r.Intn(api.MaxCount + 1), api.MaxCount}[r.Intn(5)]
	}
	return l
}

// beat is a Pulse's beat, with no part -0.
func beat(t *testing.T, p *pulse.Pulse, period int) complex128 {
	t.Helper()
	z, e := p.Beat(period)
	if e != api.OK || !isPlain(z) {
		t.Fatalf("Beat(%d): %v, %d", period, z, e)
	}
	return z
}

// P26.2: the sums that the chapter names, count by count.
func TestBeatsAsSums(t *testing.T) {
	r := rand.New(rand.NewSource(1))
	for range 500 {
		l := anyCounts(r)
		p := of(t, l...)
		var sums [3]complex128
		for n, c := range l {
			sums[0] += complex(float64(c), 0)
			sums[1] += complex(float64(c), 0) * []complex128{1, -1}[n%2]
			sums[2] += complex(float64(c), 0) * []complex128{1, 1i, -1, -1i}[n%4]
		}
		for i, period := range []int{1, 2, 4} {
			if z := beat(t, p, period); z != sums[i] {
				t.Errorf("%v: Beat(%d): %v, not %v", l, period, z, sums[i])
			}
		}
	}
}

// P26.4: the beats of 1, 2, 4 and the conjugate of that, added, are four times every fourth count; turned, the others.
func TestBeatsTellFourths(t *testing.T) {
	r := rand.New(rand.NewSource(2))
	for range 500 {
		p := of(t, anyCounts(r)...)
		for k := range 4 {
			sum := beat(t, p, 1) + pulse.Turn(beat(t, p, 2), 2*k) + pulse.Turn(beat(t, p, 4), -k) + pulse.Turn(conjugate(beat(t, p, 4)), k)
			if want := complex(float64(4*p.Fourth(k)), 0); sum != want {
				t.Errorf("%d: %v, not %v", k, sum, want)
			}
		}
	}
}

// P26.5: a tick ahead of all others turns the beats.
func TestTickAhead(t *testing.T) {
	r := rand.New(rand.NewSource(3))
	for range 500 {
		l := anyCounts(r)
		p, later := of(t, l...), of(t, append([]int{0}, l...)...)
		if z := beat(t, later, 4); z != pulse.Turn(beat(t, p, 4), 1) {
			t.Errorf("%v: of 4: %v", l, z)
		}
		if z := beat(t, later, 2); z != -beat(t, p, 2) {
			t.Errorf("%v: of 2: %v", l, z)
		}
		if beat(t, later, 1) != beat(t, p, 1) {
			t.Errorf("%v: of 1", l)
		}
		for k := range 4 {
			if later.Fourth((k+1)%4) != p.Fourth(k) {
				t.Errorf("%v: Fourth(%d)", l, k)
			}
		}
	}
}

// P26.1, P26.2: a Pulse that was counted up, tick by tick, is as one of these counts.
func TestCountedAsOf(t *testing.T) {
	r := rand.New(rand.NewSource(4))
	for range 100 {
		l := anyCounts(r)
		p := pulse.New()
		for tick, n := range l {
			if tick > 0 && p.Tick(1) != api.OK {
				t.Fatal("Tick")
			}
			part := r.Intn(n + 1)
			if p.Count(part) != api.OK || p.Count(api.MaxCount+1-part) != api.ErrFull || p.Count(n-part) != api.OK || p.Count(-1) != api.ErrArg {
				t.Fatal("Count")
			}
		}
		has(t, "counted up", p, l...)
		for _, period := range []int{1, 2, 4} {
			if beat(t, p, period) != beat(t, of(t, l...), period) {
				t.Errorf("%v: Beat(%d)", l, period)
			}
		}
	}
}
