package act

import (
	"skein/api"
	"skein/field"
	"skein/octets"
)

// row is what the table has of a kind of actions: the row of no kind has no functions.
type row struct {
	strip func(a *api.Act)                                    // takes the fields away that the kind uses
	right func(a api.Act) bool                                // may these be as they are?
	step  func(s api.State, a api.Act) (api.State, api.Errno) // none, where more than the packet is needed
}

func (r row) isKind() bool {
	return r.strip != nil
}

// rowOf is the row of a kind in the table.
func rowOf(kind int) row {
	none := func(*api.Act) {}
	port := func(a *api.Act) { a.Port = 0 }
	table := [...]row{
		api.ActSet:      {func(a *api.Act) { a.Field, a.Value, a.Mask = 0, 0, 0 }, isSetRight, set},
		api.ActMove:     {func(a *api.Act) { a.From, a.Field = 0, 0 }, isMoveRight, move},
		api.ActHop:      {none, isAnyRight, hop},
		api.ActGo:       {func(a *api.Act) { a.Table = 0 }, isGoRight, nil},
		api.ActClone:    {func(a *api.Act) { a.Acts = nil }, isAnyRight, nil},
		api.ActOutput:   {port, isPortRight, nil},
		api.ActTunnel:   {port, isPortRight, nil},
		api.ActCtLook:   {port, isPortRight, nil},
		api.ActCtCommit: {port, isPortRight, nil},
		api.ActPick:     {func(a *api.Act) { a.Ways = nil }, isPickRight, pick},
		api.ActArp:      {func(a *api.Act) { a.Value = 0 }, isMacRight, answerArp},
		api.ActEcho:     {none, isAnyRight, echo},
		api.ActError:    {func(a *api.Act) { a.Port, a.Table, a.Value, a.From = 0, 0, 0, 0 }, isErrorRight, tellFault},
		api.ActDhcp:     {func(a *api.Act) { a.Lease, a.Value = api.Lease{}, 0 }, isDhcpRight, answerDhcp},
	}
	if kind < 0 || kind >= len(table) {
		return row{}
	}
	return table[kind]
}

// isAnyRight is of kinds that use no field, or whose fields are looked at elsewhere.
func isAnyRight(api.Act) bool {
	return true
}

func isSetRight(a api.Act) bool {
	return maySet(a.Field, a.Value, a.Mask) && a.Mask != 0 && a.Value&^a.Mask == 0
}

func isMoveRight(a api.Act) bool {
	return field.Bits(a.From) != 0 && maySet(a.Field, 0, 0)
}

// maySet tells whether there are States of which field.Set takes that: it refuses a field, a value and a mask
// that may not be ahead of a packet that has not that field.
func maySet(f int, value, mask uint64) bool {
	_, fault := field.Set(api.State{}, f, value, mask)
	return fault != api.ErrField
}

func isGoRight(a api.Act) bool {
	return 0 <= a.Table && a.Table < api.MaxTables
}

func isPortRight(a api.Act) bool {
	return octets.Fits(a.Port, 16)
}

func isPickRight(a api.Act) bool {
	for _, w := range a.Ways {
		if !octets.Fits(w.Port, 16) {
			return false
		}
	}
	return 0 < len(a.Ways) && len(a.Ways) <= api.MaxBackend
}

func isMacRight(a api.Act) bool {
	return a.Value <= api.MaxMac
}

func isErrorRight(a api.Act) bool {
	return isMacRight(a) && octets.Fits(a.Port, 8) && octets.Fits(a.Table, 8) && octets.Fits(a.From, 32)
}

func isDhcpRight(a api.Act) bool {
	return isMacRight(a) && a.Lease.Mac <= api.MaxMac
}
