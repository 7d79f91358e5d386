package lower

import (
	"slices"

	"skein/api"
	"skein/dpath"
	"skein/flow"
)

// without is copies of the flows of a list that another one has not, in order.
func without(l, other []api.Flow) []api.Flow {
	had := map[uint64][]api.Flow{}
	for _, f := range other {
		d := digest(f)
		had[d] = append(had[d], f)
	}
	var out []api.Flow
	for _, f := range l {
		isSame := func(g api.Flow) bool { return dpath.Same(f, g) }
		if !slices.ContainsFunc(had[digest(f)], isSame) {
			out = append(out, flow.Copy(f))
		}
	}
	return out
}

// digest is a number that flows that are the same share, and others hardly ever.
func digest(f api.Flow) uint64 {
	var sum uint64
	mix := func(l ...uint64) {
		for _, n := range l {
			// An odd factor loses nothing; the shift brings high bits down.
			sum = (sum ^ n) * 0x9e3779b97f4a7c15
			sum ^= sum >> 32
		}
	}
	mix(uint64(f.Table), uint64(f.Priority), uint64(len(f.Terms)))
	for _, t := range f.Terms {
		mix(uint64(t.Field), t.Value, t.Mask)
	}
	mixActs(f.Acts, mix)
	return sum
}

// mixActs hands on all that actions say, and those within them.
func mixActs(l []api.Act, mix func(l ...uint64)) {
	mix(uint64(len(l)))
	for _, a := range l {
		mix(uint64(a.Kind), uint64(a.Field), uint64(a.From), a.Value, a.Mask, uint64(a.Table), uint64(a.Port))
		mix(a.Lease.Mac, uint64(a.Lease.Ip), uint64(a.Lease.Server), uint64(a.Lease.Mask), uint64(a.Lease.Router), uint64(a.Lease.Time))
		mix(uint64(len(a.Ways)))
		for _, w := range a.Ways {
			mix(uint64(w.Ip), uint64(w.Port))
		}
		mixActs(a.Acts, mix)
	}
}
