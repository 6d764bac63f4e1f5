// Package fit: which values may stand in rows, and in which columns, which who checks rows, in whichever layer, has in common.
package fit

import (
	"slices"

	"overhaul/api"
	"overhaul/value"
)

// nothing is the kind of the value that is of no kind of columns.
const nothing = 0

// Fault of values: that of the first one that is not right.
func Fault(l []api.Value) api.Errno {
	at := slices.IndexFunc(l, func(v api.Value) bool { return value.Check(v) != api.OK })
	if at < 0 {
		return api.OK
	}
	return value.Check(l[at])
}

// Kind: may what is of a kind stand where one must? Nothing may everywhere.
func Kind(kind, must int) bool { return kind == nothing || kind == must }

// Row: is there a value for each column, and does each fit there?
func Row(columns []api.Column, l []api.Value) bool {
	return slices.EqualFunc(columns, l, func(c api.Column, v api.Value) bool { return Kind(v.Kind, c.Type) })
}
