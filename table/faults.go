package table

import (
	"slices"

	"overhaul/api"
	"overhaul/delta"
	"overhaul/entries"
	"overhaul/fit"
	"overhaul/named"
	"overhaul/words"
)

// frameFault: what is wrong with a table as a whole.
func frameFault(t api.Table) api.Errno {
	if !words.IsName(t.Name) || len(t.Columns) == 0 {
		return api.ErrForm
	}
	if len(t.Columns) > api.MaxColumns || len(t.Deltas) > api.MaxDeltas || len(t.Rows) > api.MaxRows || len(t.Indexes) > api.MaxIndexes {
		return api.ErrMany
	}
	return api.OK
}

func columnsFault(t api.Table) api.Errno {
	for i, c := range t.Columns {
		if !words.IsName(c.Name) {
			return api.ErrForm
		}
		if words.OfType(c.Type) == "" {
			return api.ErrKind
		}
		if named.Column(t.Columns[:i], c.Name) >= 0 {
			return api.ErrTwice
		}
	}
	return api.OK
}

func nextFault(t api.Table) api.Errno {
	if t.Next < 1 || t.Next > greatestNext {
		return api.ErrRange
	}
	return api.OK
}

func deltasFault(t api.Table) api.Errno {
	width := firstWidth(t)
	if width < 0 || width > api.MaxColumns {
		return api.ErrState
	}
	_, e := delta.Check(width, t.Deltas)
	return e
}

// firstWidth: how many columns a table had ahead of all its deltas.
func firstWidth(t api.Table) int {
	width := len(t.Columns)
	for _, d := range t.Deltas {
		switch d.Kind {
		case api.DeltaAdd:
			width--
		case api.DeltaTake:
			width++
		}
	}
	return width
}

func rowsFault(t api.Table) api.Errno {
	ahead := 0
	for _, r := range t.Rows {
		if r.Number <= ahead || r.Number >= t.Next {
			return api.ErrState
		}
		ahead = r.Number
		if r.Version < 0 || r.Version > len(t.Deltas) {
			return api.ErrRange
		}
		l, e := now(t, r)
		if e != api.OK {
			return e
		}
		if !fit.Row(t.Columns, l) {
			return api.ErrState
		}
	}
	return api.OK
}

// indexesFault of a table whose rows are right.
func indexesFault(t api.Table) api.Errno {
	rows := values(t)
	for i, x := range t.Indexes {
		if !words.IsName(x.Name) {
			return api.ErrForm
		}
		if named.Index(t.Indexes[:i], x.Name) >= 0 {
			return api.ErrTwice
		}
		if !isColumn(t, x.At) {
			return api.ErrNone
		}
		if x.Built < 1 || x.Built > t.Next {
			return api.ErrRange
		}
		if !slices.Equal(x.Entries, entries.Of(t, rows, x)) {
			return api.ErrState
		}
	}
	return api.OK
}

func insertFault(t api.Table, r []api.Value) api.Errno {
	if e := Check(t); e != api.OK {
		return e
	}
	if len(r) != len(t.Columns) {
		return api.ErrForm
	}
	if e := fit.Fault(r); e != api.OK {
		return e
	}
	if !fit.Row(t.Columns, r) {
		return api.ErrKind
	}
	if len(t.Rows) == api.MaxRows || t.Next == greatestNext {
		return api.ErrMany
	}
	return api.OK
}

func updateFault(t api.Table, numbers []int, at int, l []api.Value) api.Errno {
	if e := Check(t); e != api.OK {
		return e
	}
	if !isColumn(t, at) {
		return api.ErrNone
	}
	if len(l) != len(numbers) || !rise(numbers) {
		return api.ErrForm
	}
	if slices.ContainsFunc(numbers, func(number int) bool { return place(t, number) < 0 }) {
		return api.ErrNone
	}
	if e := fit.Fault(l); e != api.OK {
		return e
	}
	if slices.ContainsFunc(l, func(v api.Value) bool { return !fit.Kind(v.Kind, t.Columns[at].Type) }) {
		return api.ErrKind
	}
	return api.OK
}

func alterFault(t api.Table, d api.Delta, name string) api.Errno {
	if e := Check(t); e != api.OK {
		return e
	}
	if len(t.Deltas) == api.MaxDeltas {
		return api.ErrMany
	}
	if _, e := delta.Check(len(t.Columns), []api.Delta{ofRows(d)}); e != api.OK {
		return e
	}
	if d.Kind == api.DeltaAdd {
		return addFault(t, d, name)
	}
	if name != "" {
		return api.ErrForm
	}
	if d.Kind == api.DeltaTake && len(t.Columns) == 1 {
		return api.ErrState
	}
	return api.OK
}

// addFault: what is wrong with a new column.
func addFault(t api.Table, d api.Delta, name string) api.Errno {
	if !words.IsName(name) {
		return api.ErrForm
	}
	if named.Column(t.Columns, name) >= 0 {
		return api.ErrTwice
	}
	if words.OfType(d.Type) == "" || !fit.Kind(d.Value.Kind, d.Type) {
		return api.ErrKind
	}
	return api.OK
}

func isColumn(t api.Table, at int) bool { return at >= 0 && at < len(t.Columns) }

// rise: is each number more than the one ahead?
func rise(numbers []int) bool {
	for i := 1; i < len(numbers); i++ {
		if numbers[i] <= numbers[i-1] {
			return false
		}
	}
	return true
}
