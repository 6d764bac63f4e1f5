package whole

import (
	"math/rand"
	"strconv"
	"strings"
	"testing"

	"overhaul/api"
	"overhaul/command"
)

// drawer of commands as texts, the same each time; most of them can be done.
type drawer struct{ *rand.Rand }

func (d drawer) oneOf(l ...string) string { return l[d.Intn(len(l))] }

func (d drawer) value(kind int) string {
	switch {
	case d.Intn(12) == 0:
		return "null"
	case kind == api.TypeInt:
		return d.oneOf("0", "1", "-9", "9", "999999999")
	case kind == api.TypeText:
		return d.oneOf("''", "'1'", "'-9'", "'true'", "'x'", "'xyxyxyxyxyxyxyxyxyxy'")
	}
	return d.oneOf("true", "false")
}

// table that there is, most of the time; likewise columns.
func (d drawer) table(e api.Engine) api.Table {
	if len(e.Tables) > 0 && d.Intn(25) > 0 {
		return e.Tables[d.Intn(len(e.Tables))]
	}
	return api.Table{Name: d.oneOf("t", "u", "v", "w", "x"), Columns: []api.Column{{Name: "a", Type: api.TypeInt}}}
}

func (d drawer) column(t api.Table) api.Column {
	if d.Intn(40) > 0 {
		return t.Columns[d.Intn(len(t.Columns))]
	}
	return api.Column{Name: d.oneOf("a", "b", "c", "d", "e", "f"), Type: 1 + d.Intn(3)}
}

func (d drawer) kind() string { return d.oneOf("int", "text", "bool") }

// part of a condition: often one that an index may help with.
func (d drawer) part(t api.Table) string {
	c := d.column(t)
	v := d.value(c.Type)
	switch d.Intn(10) {
	case 0:
		return "not (" + c.Name + " = " + v + ")"
	case 1:
		return "(" + c.Name + " < " + v + ")"
	case 2:
		return "(" + c.Name + " is null)"
	case 3:
		return "(" + c.Name + " = " + d.column(t).Name + ")"
	case 4, 5, 6:
		return "(" + v + " = " + c.Name + ")"
	}
	return "(" + c.Name + " = " + v + ")"
}

// where: nothing, or at most three parts.
func (d drawer) where(t api.Table) string {
	op := func() string { return d.oneOf(" and ", " and ", " and ", " or ") }
	switch d.Intn(8) {
	case 0:
		return ""
	case 1, 2, 3:
		return " where " + d.part(t)
	case 4, 5:
		return " where (" + d.part(t) + op() + d.part(t) + ")"
	case 6:
		return " where (" + d.part(t) + op() + "(" + d.part(t) + op() + d.part(t) + "))"
	}
	return " where ((" + d.part(t) + op() + d.part(t) + ")" + op() + d.part(t) + ")"
}

// looking: a command that looks for rows of a table.
func (d drawer) looking(t api.Table) string {
	c := d.column(t)
	switch d.Intn(5) {
	case 0:
		return "delete from " + t.Name + d.where(t)
	case 1:
		return "update " + t.Name + " set " + c.Name + " = " + d.set(t, c) + d.where(t)
	case 2:
		return "select " + c.Name + ", " + d.column(t).Name + " from " + t.Name + d.where(t) + " order by " + d.column(t).Name + " limit " + strconv.Itoa(d.Intn(9))
	}
	return "select * from " + t.Name + d.where(t) + d.oneOf("", " order by "+c.Name)
}

// set: an expression for a column.
func (d drawer) set(t api.Table, c api.Column) string {
	switch {
	case d.Intn(8) == 0:
		return d.column(t).Name
	case c.Type == api.TypeInt:
		return d.oneOf(d.value(c.Type), "("+c.Name+" + 1)", "("+c.Name+" - 9)")
	case c.Type == api.TypeText:
		return d.oneOf(d.value(c.Type), "("+c.Name+" || 'y')", "("+c.Name+" || "+c.Name+")")
	}
	return d.oneOf(d.value(c.Type), "not "+c.Name, "("+d.column(t).Name+" is null)")
}

// shaping: a command by which a table is another one.
func (d drawer) shaping(t api.Table, c api.Column) string {
	kind := 1 + d.Intn(3)
	alter := "alter table " + t.Name
	switch d.Intn(10) {
	case 0, 1, 2:
		return alter + " add " + d.oneOf("a", "b", "c", "d", "e", "f") + " " + []string{"int", "text", "bool"}[kind-1] + " default " + d.value([]int{kind, kind, kind, 1 + d.Intn(3)}[d.Intn(4)])
	case 3, 4:
		return alter + " drop " + c.Name
	case 5:
		return alter + " rename " + c.Name + " to " + d.oneOf("a", "b", "c", "d", "e", "f")
	case 6:
		return alter + " rename to " + d.oneOf("t", "u", "v", "w", "x")
	}
	return alter + " retype " + c.Name + " " + d.kind()
}

// text of a command.
func (d drawer) text(e api.Engine) string {
	t := d.table(e)
	c := d.column(t)
	switch k := d.Intn(60); {
	case k < 3:
		return "create table " + d.oneOf("t", "u", "v", "w", "x") + " (a " + d.kind() + ", " + d.oneOf("b", "c", "b", "c", "a") + " " + d.kind() + ")"
	case k < 4:
		return "drop table " + t.Name
	case k < 8:
		return "create index " + d.oneOf("i", "j", "k", "l", "m") + " on " + t.Name + " (" + c.Name + ")"
	case k < 9:
		return "drop index " + d.oneOf("i", "j", "k", "l", "m")
	case k < 20:
		return d.shaping(t, c)
	case k < 23:
		return d.oneOf("begin", "begin", "commit", "rollback")
	case k < 40:
		return d.looking(t)
	}
	var l []string
	for _, c := range t.Columns {
		l = append(l, d.value(c.Type))
	}
	if d.Intn(30) == 0 {
		l = append(l[1:], d.value(1+d.Intn(3)))
	}
	return "insert into " + t.Name + " values (" + strings.Join(l, ", ") + ")"
}

func parsed(t *testing.T, s string) api.Cmd {
	t.Helper()
	c, at, e := command.Parse(s)
	if e != api.OK {
		t.Fatalf("%q: %d at %d", s, e, at)
	}
	return c
}
