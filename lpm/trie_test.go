package lpm

import (
	"math/rand"
	"testing"

	"skein/api"
)

// alike tells whether two tries have the same nodes.
func alike(a, b *node) bool {
	if a == nil || b == nil {
		return a == b
	}
	return a.route == b.route && a.there == b.there && alike(a.kids[0], b.kids[0]) && alike(a.kids[1], b.kids[1])
}

func size(n *node) int {
	if n == nil {
		return 0
	}
	return 1 + size(n.kids[0]) + size(n.kids[1])
}

// P17.4: the trie of what is there is the one of what came last, whatever was there in between; nothing is kept
// of what is gone.
func TestTrieIsOfWhatIsThere(t *testing.T) {
	for seed := range int64(40) {
		chance := rand.New(rand.NewSource(seed))
		x := New()
		for step := range 400 {
			plen := chance.Intn(33)
			prefix := uint32(chance.Intn(16)) << 28 >> (chance.Intn(2) * 13) & Mask(plen)
			if x.Add(prefix, plen, step) == api.ErrTwice {
				x.Remove(prefix, plen)
			}
			anew, l := New(), x.routes()
			chance.Shuffle(len(l), func(i, j int) { l[i], l[j] = l[j], l[i] })
			for _, r := range l {
				anew.Add(r.Prefix, r.Plen, r.Value)
			}
			if !alike(x.root, anew.root) || size(x.root) > 2*x.count+1 {
				t.Fatalf("seed %d, step %d", seed, step)
			}
		}
		for _, r := range x.routes() {
			x.Remove(r.Prefix, r.Plen)
		}
		if !alike(x.root, New().root) || x.count != 0 {
			t.Errorf("seed %d: %d are left", seed, size(x.root))
		}
	}
}
