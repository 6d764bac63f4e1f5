package engine

import (
	"slices"

	"overhaul/api"
	"overhaul/expr"
	"overhaul/named"
	"overhaul/table"
	"overhaul/value"
)

func insert(t *api.Table, l []api.Value) (f api.Errno) {
	*t, f = table.Insert(*t, l)
	return f
}

func (d *doer) delete(t *api.Table, c api.Cmd) api.Errno {
	f := whereFault(t.Columns, c)
	if f != api.OK {
		return f
	}
	numbers, _ := found(*t, c)
	d.answer.Many = len(numbers)
	*t, f = table.Delete(*t, numbers)
	return f
}

func (d *doer) update(t *api.Table, at int, c api.Cmd) api.Errno {
	if f := whereFault(t.Columns, c); f != api.OK {
		return f
	}
	f := kindFault(t.Columns, c.Expr, t.Columns[at].Type, api.ErrKind)
	if f != api.OK {
		return f
	}
	numbers, rows := found(*t, c)
	var l []api.Value
	for _, r := range rows {
		v, _ := expr.Eval(t.Columns, r, c.Expr)
		l = append(l, v)
	}
	d.answer.Many = len(numbers)
	*t, f = table.Update(*t, numbers, at, l)
	return f
}

// choose rows: what a select answers.
func (d *doer) choose(t api.Table, c api.Cmd) api.Errno {
	fields := fieldsAt(t.Columns, c.Fields)
	if slices.Contains(fields, -1) {
		return api.ErrNone
	}
	order := named.Column(t.Columns, c.Order)
	if c.Order != "" && order < 0 {
		return api.ErrNone
	}
	if f := whereFault(t.Columns, c); f != api.OK {
		return f
	}
	_, rows := found(t, c)
	if order >= 0 {
		sortBy(rows, order)
	}
	if c.Limit >= 0 && c.Limit < len(rows) {
		rows = rows[:c.Limit]
	}
	for _, r := range rows {
		d.answer.Rows = append(d.answer.Rows, picked(r, fields))
	}
	return api.OK
}

// found rows: numbers and values of those of which a condition without a fault holds.
func found(t api.Table, c api.Cmd) ([]int, [][]api.Value) {
	holds := func(row []api.Value) bool {
		is, _ := expr.Holds(t.Columns, row, c.Where)
		return c.All || is
	}
	all, rows, _ := table.Read(t)
	var numbers []int
	var l [][]api.Value
	for i, r := range rows {
		if holds(r) {
			numbers = append(numbers, all[i])
			l = append(l, r)
		}
	}
	return numbers, l
}

// fieldsAt: places of columns with these names (-1: there is none); of all columns, if no field is named.
func fieldsAt(l []api.Column, names []string) []int {
	var places []int
	for _, name := range names {
		places = append(places, named.Column(l, name))
	}
	if len(names) == 0 {
		for i := range l {
			places = append(places, i)
		}
	}
	return places
}

// sortBy the values in a column; rows that have the same one there stay as they came.
func sortBy(rows [][]api.Value, at int) {
	slices.SortStableFunc(rows, func(a, b []api.Value) int {
		order, _ := value.Order(a[at], b[at])
		return order
	})
}

// picked values of a row.
func picked(r []api.Value, places []int) []api.Value {
	var l []api.Value
	for _, at := range places {
		l = append(l, r[at])
	}
	return l
}
