package table

import (
	"slices"

	"overhaul/api"
	"overhaul/entries"
)

// indexed: a table whose indexes have the Entries that they must; they are changed where they lie.
func indexed(t api.Table) api.Table {
	rows := values(t)
	for i, x := range t.Indexes {
		t.Indexes[i].Entries = entries.Of(t, rows, x)
	}
	return t
}

// without a column: indexes on it go, and those on columns behind it follow these.
func without(l []api.Index, at int) []api.Index {
	l = slices.DeleteFunc(l, func(x api.Index) bool { return x.At == at })
	for i := range l {
		if l[i].At > at {
			l[i].At--
		}
	}
	return l
}

// unbuilt: indexes on a column are at their beginning again, for all its keys are other ones.
func unbuilt(l []api.Index, at int) []api.Index {
	for i := range l {
		if l[i].At == at {
			l[i].Built = 1
		}
	}
	return l
}
