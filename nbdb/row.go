package nbdb

import (
	"cmp"
	"slices"

	"skein/api"
)

// key is what no two rows share.
type key struct {
	kind  int
	name  string
	owner string
	peer  string
	flag  bool
	num   int
	num2  int
	ip    uint32
}

// keyOf is a row's key. One of a kind that may not be has a key, too: in the midst of a transaction it may come
// and go.
func keyOf(r api.Row) key {
	switch r.Kind {
	case api.RowRoute:
		return key{kind: r.Kind, owner: r.Owner, ip: r.Ip, num: r.Num}
	case api.RowAcl:
		return key{kind: r.Kind, owner: r.Owner, flag: r.Flag, num: r.Num}
	case api.RowNat:
		return key{kind: r.Kind, owner: r.Owner, peer: r.Peer, ip: r.Ip}
	case api.RowVip:
		return key{kind: r.Kind, owner: r.Owner, num: r.Num, ip: r.Ip, num2: r.Num2}
	}
	return key{kind: r.Kind, name: r.Name}
}

// copyOf is a row whose Ways are in memory of their own.
func copyOf(r api.Row) api.Row {
	r.Ways = append([]api.Way(nil), r.Ways...)
	return r
}

// inOrder compares two rows' places in the order.
func inOrder(a, b api.Row) int {
	return cmp.Or(
		cmp.Compare(a.Kind, b.Kind),
		cmp.Compare(a.Owner, b.Owner),
		cmp.Compare(a.Name, b.Name),
		cmp.Compare(a.Peer, b.Peer),
		compareFlags(a.Flag, b.Flag),
		cmp.Compare(a.Num, b.Num),
		cmp.Compare(a.Num2, b.Num2),
		cmp.Compare(a.Ip, b.Ip),
		cmp.Compare(a.Ip2, b.Ip2),
		cmp.Compare(a.Text, b.Text),
	)
}

// compareFlags has false ahead of true.
func compareFlags(a, b bool) int {
	switch {
	case a == b:
		return 0
	case b:
		return -1
	}
	return 1
}

// Same tells whether two rows are the same in all fields.
func Same(a, b api.Row) bool {
	// The order leaves out but these three.
	return inOrder(a, b) == 0 && a.Mac == b.Mac && a.Flag2 == b.Flag2 && slices.Equal(a.Ways, b.Ways)
}
