package table

import (
	"slices"

	"overhaul/api"
	"overhaul/delta"
	"overhaul/row"
)

// now: a row's values as they are now; its version is one that its table has.
func now(t api.Table, r api.Stored) ([]api.Value, api.Errno) {
	l, e := row.Decode(r.Bytes)
	if e != api.OK {
		return nil, e
	}
	return delta.Apply(l, t.Deltas[r.Version:])
}

// values of all rows of a table whose rows are right.
func values(t api.Table) [][]api.Value {
	var l [][]api.Value
	for _, r := range t.Rows {
		is, _ := now(t, r)
		l = append(l, is)
	}
	return l
}

// place of the row with a number; below 0, if there is none.
func place(t api.Table, number int) int {
	return slices.IndexFunc(t.Rows, func(r api.Stored) bool { return r.Number == number })
}
