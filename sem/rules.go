package sem

import (
	"cmp"
	"slices"

	"skein/api"
	"skein/expr"
	"skein/network"
)

// verdict is what becomes of a frame by access rules.
type verdict int

// The verdicts.
const (
	goesOn verdict = iota
	isDropped
	isCommitted // it goes on, and its connection will be remembered
)

// rule is an ACL, and what its text says.
type rule struct {
	api.Row
	says api.Expr
}

// rulesOf is the ACLs that are wanted, of a switch with these ports, the greatest Num first.
func rulesOf(acls []api.Row, ports []network.Port, isWanted func(r api.Row) bool) []rule {
	var names []api.Name
	for _, p := range ports {
		names = append(names, api.Name{Text: p.Name, Num: uint64(p.Key)})
	}
	var out []rule
	for _, r := range acls {
		if !isWanted(r) {
			continue
		}
		// Well formed is a text with which each key is 1. Another key may be too great for a field that it stands
		// beside: then there is no expression, and none never holds.
		says, _, _ := expr.Parse(r.Text, names)
		out = append(out, rule{r, says})
	}
	slices.SortFunc(out, func(a, b rule) int { return cmp.Compare(b.Num, a.Num) })
	return out
}

// judge is the verdict of rules, the greatest Num first, on a State. What is of a known connection was let through
// already.
func judge(rules []rule, s api.State) verdict {
	if s.Ct&api.CtEst != 0 {
		return goesOn
	}
	r, ok := first(rules, func(r rule) bool { return expr.Holds(r.says, s) })
	switch {
	case ok && r.Num2 == api.AclDrop:
		return isDropped
	case ok && r.Num2 == api.AclRelated:
		return isCommitted
	}
	return goesOn
}
