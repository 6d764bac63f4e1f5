// Package fresh: tables and engines made anew, in memory of their own, so that what is made of them shares none with what came in.
package fresh

import (
	"slices"

	"overhaul/api"
)

// Engine like this one.
func Engine(e api.Engine) api.Engine {
	e.Tables = Tables(e.Tables)
	e.Saved = Tables(e.Saved)
	return e
}

// Tables like these.
func Tables(l []api.Table) []api.Table {
	l = slices.Clone(l)
	for i, t := range l {
		l[i] = Table(t)
	}
	return l
}

// Table like this one.
func Table(t api.Table) api.Table {
	t.Columns = slices.Clone(t.Columns)
	t.Deltas = slices.Clone(t.Deltas)
	t.Rows = slices.Clone(t.Rows)
	t.Indexes = slices.Clone(t.Indexes)
	for i, x := range t.Indexes {
		t.Indexes[i].Entries = slices.Clone(x.Entries)
	}
	return t
}

// Disk like this one.
func Disk(d api.Disk) api.Disk {
	return api.Disk{Kept: slices.Clone(d.Kept), Written: slices.Clone(d.Written)}
}
