package nbdb

import (
	"slices"

	"skein/api"
	"skein/expr"
	"skein/norm"
)

// Acl is the matches of an ACL's text, in which ports' names stand for their keys.
func Acl(ports []string, keys []api.Key, text string) ([][]api.Term, api.Errno) {
	return matchesOf(text, namesOf(ports, keys))
}

// namesOf is ports' names with the numbers of their keys: 0, if they have none; of several the first.
func namesOf(ports []string, keys []api.Key) []api.Name {
	numbers := map[string]int{}
	for _, k := range keys {
		if _, ok := numbers[k.Name]; !ok {
			numbers[k.Name] = k.Num
		}
	}
	var names []api.Name
	for _, p := range ports {
		names = append(names, api.Name{Text: p, Num: uint64(numbers[p])})
	}
	return names
}

// matchesOf is the matches of an ACL's text, or why it may not be.
func matchesOf(text string, names []api.Name) ([][]api.Term, api.Errno) {
	e, fault, _ := expr.Parse(text, names)
	if fault != api.OK {
		return nil, fault
	}
	l, fault := norm.Normal(e)
	if fault != api.OK {
		return nil, fault
	}
	if namesOther(e) {
		return nil, api.ErrAcl
	}
	return l, api.OK
}

// namesOther tells whether an expression names a field that no ACL may name.
func namesOther(e api.Expr) bool {
	if e.Kind == api.ExprIs {
		return !mayName(e.Field)
	}
	return slices.ContainsFunc(e.Parts, namesOther)
}

// mayName tells of the fields that ACLs may name: those of packets, and where these come in and go out.
func mayName(f int) bool {
	return f < api.CtState || f == api.InPort || f == api.OutPort
}
