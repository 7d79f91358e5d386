package dpath

import (
	"cmp"
	"slices"
	"strconv"

	"skein/act"
	"skein/api"
	"skein/flow"
	"skein/match"
)

const mostPriority = 65535

// row is a flow of a Program, and the text of its Terms.
type row struct {
	flow api.Flow
	text string
}

// rowsOf is copies of flows by their names, or why they can't be a Program.
func rowsOf(l []api.Flow) (map[string]*row, api.Errno) {
	if len(l) > api.MaxRules {
		return nil, api.ErrFull
	}
	named := make(map[string]*row, len(l))
	for _, f := range l {
		if fault := check(f); fault != api.OK {
			return nil, fault
		}
		r := &row{flow: flow.Copy(f), text: match.Text(f.Terms)}
		name := r.name()
		if named[name] != nil {
			return nil, api.ErrTwice
		}
		named[name] = r
	}
	return named, api.OK
}

// check tells why a flow by itself may not be.
func check(f api.Flow) api.Errno {
	if !isTable(f.Table) || f.Priority < 0 || f.Priority > mostPriority {
		return api.ErrArg
	}
	if fault := match.Check(f.Terms); fault != api.OK {
		return fault
	}
	return act.CheckAll(f.Acts)
}

// isTable tells whether there is a table of that number.
func isTable(n int) bool {
	return 0 <= n && n < api.MaxTables
}

// name is the text that no other flow of a Program has. (Unlike Terms in form have unlike texts.)
func (r *row) name() string {
	return strconv.Itoa(r.flow.Table) + " " + strconv.Itoa(r.flow.Priority) + " " + r.text
}

// inOrder compares two rows' places in the order.
func inOrder(a, b *row) int {
	return cmp.Or(
		cmp.Compare(a.flow.Table, b.flow.Table),
		cmp.Compare(b.flow.Priority, a.flow.Priority),
		cmp.Compare(a.text, b.text),
	)
}

// Same tells whether two flows are the same in all.
func Same(a, b api.Flow) bool {
	return a.Table == b.Table && a.Priority == b.Priority && slices.Equal(a.Terms, b.Terms) && slices.EqualFunc(a.Acts, b.Acts, sameAct)
}

func sameAct(a, b api.Act) bool {
	if a.Kind != b.Kind || a.Field != b.Field || a.From != b.From || a.Value != b.Value || a.Mask != b.Mask {
		return false
	}
	if a.Table != b.Table || a.Port != b.Port || a.Lease != b.Lease || !slices.Equal(a.Ways, b.Ways) {
		return false
	}
	return slices.EqualFunc(a.Acts, b.Acts, sameAct)
}
