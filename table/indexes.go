package table

import (
	"cmp"
	"slices"

	"overhaul/api"
	"overhaul/value"
)

// indexed: a table whose indexes have the Entries that they must; they are changed where they lie.
func indexed(t api.Table) api.Table {
	rows := values(t)
	for i, x := range t.Indexes {
		t.Indexes[i].Entries = entries(t, rows, x)
	}
	return t
}

// entries that an index must have, of rows with these values.
func entries(t api.Table, rows [][]api.Value, x api.Index) []api.Entry {
	var l []api.Entry
	for i, r := range t.Rows {
		if r.Number < x.Built {
			key, _ := value.Key(rows[i][x.At])
			l = append(l, api.Entry{Key: key, Number: r.Number})
		}
	}
	slices.SortFunc(l, func(a, b api.Entry) int {
		return cmp.Or(cmp.Compare(a.Key, b.Key), cmp.Compare(a.Number, b.Number))
	})
	return l
}

// without a column: indexes on it go, and those on columns behind it follow these.
func without(l []api.Index, at int) []api.Index {
	l = slices.DeleteFunc(l, func(x api.Index) bool { return x.At == at })
	for i := range l {
		if l[i].At > at {
			l[i].At--
		}
	}
	return l
}

// unbuilt: indexes on a column are at their beginning again, for all its keys are other ones.
func unbuilt(l []api.Index, at int) []api.Index {
	for i := range l {
		if l[i].At == at {
			l[i].Built = 1
		}
	}
	return l
}
