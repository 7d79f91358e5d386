package flow

import (
	"slices"

	"skein/api"
)

// Copy is a flow whose lists are in memory of their own.
func Copy(f api.Flow) api.Flow {
	f.Terms, f.Acts = slices.Clone(f.Terms), copyOfActs(f.Acts)
	return f
}

func copyOfActs(l []api.Act) []api.Act {
	out := slices.Clone(l)
	for i, a := range out {
		out[i].Acts, out[i].Ways = copyOfActs(a.Acts), slices.Clone(a.Ways)
	}
	return out
}
