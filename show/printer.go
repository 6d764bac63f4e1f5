package show

import (
	"strconv"
	"strings"

	"overhaul/api"
	"overhaul/words"
)

// text that is put together of tokens.
type text struct {
	strings.Builder
	last string
}

// put tokens behind what is there, a blank between where one must stand.
func (t *text) put(tokens ...string) {
	for _, token := range tokens {
		if t.Len() > 0 && t.last != "(" && token != ")" && token != "," {
			t.WriteByte(' ')
		}
		t.WriteString(token)
		t.last = token
	}
}

// printer of a command that was checked.
type printer struct{ text }

func (p *printer) command(c api.Cmd) {
	switch c.Kind {
	case api.CmdCreate:
		p.put("create", "table", c.Name)
		inBrackets(p, c.Columns, p.column)
	case api.CmdDrop:
		p.put("drop", "table", c.Name)
	case api.CmdAdd, api.CmdTake, api.CmdColumn, api.CmdRetype, api.CmdTable:
		p.put("alter", "table", c.Name)
		p.change(c)
	case api.CmdIndex:
		p.put("create", "index", c.Name, "on", c.Other, "(", c.Column, ")")
	case api.CmdUnindex:
		p.put("drop", "index", c.Name)
	case api.CmdInsert:
		p.put("insert", "into", c.Name, "values")
		inBrackets(p, c.Values, p.value)
	case api.CmdDelete:
		p.put("delete", "from", c.Name)
		p.where(c)
	case api.CmdUpdate:
		p.put("update", c.Name, "set", c.Column, "=")
		p.expr(c.Expr)
		p.where(c)
	case api.CmdSelect:
		p.choose(c)
	case api.CmdBegin:
		p.put("begin")
	case api.CmdCommit:
		p.put("commit")
	case api.CmdRollback:
		p.put("rollback")
	}
}

// change of a table, behind its name.
func (p *printer) change(c api.Cmd) {
	switch c.Kind {
	case api.CmdAdd:
		p.put("add")
		p.column(api.Column{Name: c.Column, Type: c.Type})
		p.put("default")
		p.value(c.Value)
	case api.CmdTake:
		p.put("drop", c.Column)
	case api.CmdColumn:
		p.put("rename", c.Column, "to", c.Other)
	case api.CmdRetype:
		p.put("retype")
		p.column(api.Column{Name: c.Column, Type: c.Type})
	case api.CmdTable:
		p.put("rename", "to", c.Other)
	}
}

func (p *printer) choose(c api.Cmd) {
	p.put("select")
	if len(c.Fields) == 0 {
		p.put("*")
	}
	listed(p, c.Fields, func(field string) { p.put(field) })
	p.put("from", c.Name)
	p.where(c)
	if c.Order != "" {
		p.put("order", "by", c.Order)
	}
	if c.Limit >= 0 {
		p.put("limit", strconv.Itoa(c.Limit))
	}
}

func (p *printer) where(c api.Cmd) {
	if !c.All {
		p.put("where")
		p.expr(c.Where)
	}
}

func (p *printer) column(c api.Column) {
	p.put(c.Name, words.OfType(c.Type))
}

// value: a number below 0 is put as one token, for no blank may stand behind its sign.
func (p *printer) value(v api.Value) {
	switch v.Kind {
	case api.TypeInt:
		p.put(strconv.Itoa(v.N))
	case api.TypeText:
		p.put("'" + v.S + "'")
	case api.TypeBool:
		p.put(strconv.FormatBool(v.N == 1))
	default:
		p.put("null")
	}
}

func (p *printer) expr(e api.Expr) {
	switch e.Kind {
	case api.ExprValue:
		p.value(e.Value)
	case api.ExprColumn:
		p.put(e.Name)
	case api.ExprNot:
		p.put("not")
		p.expr(e.Args[0])
	case api.ExprNull:
		p.put("(")
		p.expr(e.Args[0])
		p.put("is", "null", ")")
	default:
		p.put("(")
		p.expr(e.Args[0])
		p.put(words.OfOperator(e.Kind))
		p.expr(e.Args[1])
		p.put(")")
	}
}

// listed things, a comma between.
func listed[T any](p *printer, l []T, one func(T)) {
	for i, x := range l {
		if i > 0 {
			p.put(",")
		}
		one(x)
	}
}

// inBrackets stand listed things.
func inBrackets[T any](p *printer, l []T, one func(T)) {
	p.put("(")
	listed(p, l, one)
	p.put(")")
}
