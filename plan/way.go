package plan

import (
	"iter"

	"overhaul/api"
	"overhaul/index"
	"overhaul/named"
)

// way by which rows are looked for: in an index of their table, by a value.
type way struct {
	index int
	value api.Value
}

// wayOf a condition; false, if no index helps.
func wayOf(t api.Table, where api.Expr) (way, bool) {
	for part := range parts(where) {
		name, v := sought(part)
		if v == (api.Value{}) {
			continue
		}
		if k := doneOn(t, named.Column(t.Columns, name)); k >= 0 {
			return way{index: k, value: v}, true
		}
	}
	return way{}, false
}

// parts of a condition: it holds just if each of them does.
func parts(e api.Expr) iter.Seq[api.Expr] {
	return func(yield func(api.Expr) bool) {
		if e.Kind != api.ExprAnd {
			yield(e)
			return
		}
		for _, a := range e.Args {
			for part := range parts(a) {
				if !yield(part) {
					return
				}
			}
		}
	}
}

// sought: the column, and the value that must be in it, if a part says just that; else nothing, which no row has by ExprSame.
func sought(part api.Expr) (string, api.Value) {
	if part.Kind != api.ExprSame {
		return "", api.Value{}
	}
	column, v := part.Args[0], part.Args[1]
	if column.Kind == api.ExprValue {
		column, v = v, column
	}
	if column.Kind != api.ExprColumn || v.Kind != api.ExprValue {
		return "", api.Value{}
	}
	return column.Name, v.Value
}

// doneOn: place of the first index on a column that has all rows; below 0, if there is none.
func doneOn(t api.Table, at int) int {
	for k, x := range t.Indexes {
		if isDone, _ := index.Done(t, k); isDone && x.At == at {
			return k
		}
	}
	return -1
}
