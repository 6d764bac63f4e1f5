package engine

import (
	"math/rand"

	"overhaul/api"
)

// drawer of commands, the same each time.
type drawer struct{ *rand.Rand }

func (d drawer) oneOf(l ...string) string { return l[d.Intn(len(l))] }

func (d drawer) value(kind int) api.Value {
	if d.Intn(60) == 0 {
		kind = 1 + d.Intn(3)
	}
	switch kind {
	case api.TypeInt:
		return []api.Value{none, number(0), number(1), number(-9), number(9), number(api.MaxInt)}[d.Intn(6)]
	case api.TypeText:
		return []api.Value{none, text(""), text("1"), text("-9"), text("true"), text("x"), text("abcdefghijklmnop")}[d.Intn(7)]
	}
	return []api.Value{none, truth(0), truth(1)}[d.Intn(3)]
}

// table that there is, most of the time; likewise columns.
func (d drawer) table(m *model) *held {
	if len(m.tables) > 0 && d.Intn(12) > 0 {
		return m.tables[d.Intn(len(m.tables))]
	}
	return &held{name: d.oneOf("t", "u", "v", "w", "x"), columns: []api.Column{{Name: "a", Type: 1}}}
}

func (d drawer) column(h *held) api.Column {
	if d.Intn(12) > 0 {
		return h.columns[d.Intn(len(h.columns))]
	}
	return api.Column{Name: d.oneOf("a", "b", "c", "d", "e", "f"), Type: 1 + d.Intn(3)}
}

// columns for a table, now and then two of one name.
func (d drawer) columns() []api.Column {
	var l []api.Column
	for i := range 1 + d.Intn(4) {
		l = append(l, api.Column{Name: string(rune('a' + i)), Type: 1 + d.Intn(3)})
	}
	if d.Intn(8) == 0 {
		l = append(l, l[0])
	}
	return l
}

func col(c api.Column) api.Expr { return api.Expr{Kind: api.ExprColumn, Name: c.Name} }

func val(v api.Value) api.Expr { return api.Expr{Kind: api.ExprValue, Value: v} }

func of(kind int, l ...api.Expr) api.Expr { return api.Expr{Kind: kind, Args: l} }

// where: a condition, mostly one that may be.
func (d drawer) where(h *held) api.Expr {
	c := d.column(h)
	switch d.Intn(12) {
	case 0:
		other := d.column(h)
		return of(api.ExprOr, of(api.ExprSame, col(other), val(d.value(other.Type))), of(api.ExprNull, col(c)))
	case 1, 2:
		return of(api.ExprLess, val(d.value(c.Type)), col(c))
	case 3:
		return of(api.ExprNull, col(c))
	case 4:
		return of(api.ExprNot, of(api.ExprLess, col(c), val(d.value(c.Type))))
	case 5:
		return val(d.value(api.TypeBool))
	case 6:
		return col(c)
	}
	return of(api.ExprSame, col(c), val(d.value(c.Type)))
}

// set: an expression for a column, mostly one that may be.
func (d drawer) set(h *held, c api.Column) api.Expr {
	other := d.column(h)
	switch {
	case d.Intn(6) == 0:
		return col(other)
	case c.Type == api.TypeInt && d.Intn(2) == 0:
		return of(api.ExprAdd+d.Intn(2), col(c), val(number(1)))
	case c.Type == api.TypeText && d.Intn(2) == 0:
		return of(api.ExprCat, col(c), val(text("y")))
	case c.Type == api.TypeBool && d.Intn(2) == 0:
		return of(api.ExprNull, col(other))
	}
	return val(d.value(c.Type))
}

func (d drawer) command(m *model) api.Cmd {
	h := d.table(m)
	c := d.column(h)
	x := api.Cmd{Name: h.name}
	switch k := d.Intn(60); {
	case k < 3:
		x.Kind, x.Name, x.Columns = api.CmdCreate, d.oneOf("t", "u", "v", "w", "x"), d.columns()
	case k < 4:
		x.Kind = api.CmdDrop
	case k < 7:
		x.Kind, x.Column, x.Type = api.CmdAdd, d.oneOf("a", "b", "c", "d", "e", "f"), 1+d.Intn(3)
		x.Value = d.value([]int{x.Type, x.Type, x.Type, 1 + d.Intn(3)}[d.Intn(4)])
	case k < 9:
		x.Kind, x.Column = api.CmdTake, c.Name
	case k < 10:
		x.Kind, x.Column, x.Other = api.CmdColumn, c.Name, d.oneOf("a", "b", "c", "d", "e", "f")
	case k < 12:
		x.Kind, x.Column, x.Type = api.CmdRetype, c.Name, 1+d.Intn(3)
	case k < 13:
		x.Kind, x.Other = api.CmdTable, d.oneOf("t", "u", "v", "w", "x")
	case k < 16:
		x.Kind, x.Name, x.Other, x.Column = api.CmdIndex, d.oneOf("i", "j", "k", "l", "m"), h.name, c.Name
	case k < 17:
		x.Kind, x.Name = api.CmdUnindex, d.oneOf("i", "j", "k", "l", "m")
	case k < 56:
		return d.ofRows(h, c)
	default:
		return api.Cmd{Kind: api.CmdBegin + d.Intn(3)}
	}
	return x
}

func (d drawer) ofRows(h *held, c api.Column) api.Cmd {
	x := api.Cmd{Name: h.name}
	k := d.Intn(20)
	if k < 12 {
		x.Kind = api.CmdInsert
		for _, c := range h.columns {
			x.Values = append(x.Values, d.value(c.Type))
		}
		if len(x.Values) < api.MaxColumns && d.Intn(30) == 0 {
			x.Values = append(x.Values, none)
		}
		return x
	}
	x.All = d.Intn(12) == 0
	if !x.All {
		x.Where = d.where(h)
	}
	switch {
	case k < 13:
		x.Kind = api.CmdDelete
	case k < 16:
		x.Kind, x.Column, x.Expr = api.CmdUpdate, c.Name, d.set(h, c)
	default:
		x.Kind, x.Limit = api.CmdSelect, d.Intn(8)-1
		for range d.Intn(4) {
			x.Fields = append(x.Fields, d.column(h).Name)
		}
		if d.Intn(2) == 0 {
			x.Order = d.column(h).Name
		}
	}
	return x
}
