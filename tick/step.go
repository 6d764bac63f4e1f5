package tick

import (
	"overhaul/api"
	"overhaul/index"
	"overhaul/row"
	"overhaul/table"
)

// step of tables without a fault, which are changed where they lie; false, if all is clean.
func step(l []api.Table) bool {
	// One kind of steps is done in all tables ahead of the next kind in any.
	for _, stepOf := range []func(*api.Table) bool{renew, forget, build} {
		for i := range l {
			if stepOf(&l[i]) {
				return true
			}
		}
	}
	return false
}

// renew rows that are not of the newest version, the Batch with the least numbers.
func renew(t *api.Table) bool {
	_, rows, _ := table.Read(*t)
	many := 0
	for i := range t.Rows {
		if t.Rows[i].Version != len(t.Deltas) && many < api.Batch {
			t.Rows[i].Version = len(t.Deltas)
			t.Rows[i].Bytes, _ = row.Encode(rows[i])
			many++
		}
	}
	return many > 0
}

// forget Deltas that no row is behind any more.
func forget(t *api.Table) bool {
	if len(t.Deltas) == 0 {
		return false
	}
	t.Deltas = nil
	for i := range t.Rows {
		t.Rows[i].Version = 0
	}
	return true
}

// build the first index that is not done.
func build(t *api.Table) bool {
	for k := range t.Indexes {
		if isDone, _ := index.Done(*t, k); !isDone {
			*t, _ = index.Build(*t, k, api.Batch)
			return true
		}
	}
	return false
}
