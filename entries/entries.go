// Package entries: what must be in an index, which who checks indexes, who changes their rows and who builds them have in common.
package entries

import (
	"cmp"
	"slices"

	"overhaul/api"
	"overhaul/value"
)

// Of an index, as far as it is built; the values of the table's rows are handed in, as they are now.
func Of(t api.Table, rows [][]api.Value, x api.Index) []api.Entry {
	var l []api.Entry
	for i, r := range t.Rows {
		if r.Number < x.Built {
			key, _ := value.Key(rows[i][x.At])
			l = append(l, api.Entry{Key: key, Number: r.Number})
		}
	}
	slices.SortFunc(l, func(a, b api.Entry) int {
		return cmp.Or(cmp.Compare(a.Key, b.Key), cmp.Compare(a.Number, b.Number))
	})
	return l
}
