package command

import "overhaul/api"

// command of any form.
func (p *parser) command() api.Cmd {
	switch p.oneOf("create", "drop", "alter", "insert", "delete", "update", "select", "begin", "commit", "rollback") {
	case "create":
		return p.create()
	case "drop":
		return p.drop()
	case "alter":
		return p.alter()
	case "insert":
		return p.insert()
	case "delete":
		return p.delete()
	case "update":
		return p.update()
	case "select":
		return p.choose()
	case "begin":
		return api.Cmd{Kind: api.CmdBegin}
	case "commit":
		return api.Cmd{Kind: api.CmdCommit}
	}
	return api.Cmd{Kind: api.CmdRollback}
}

func (p *parser) create() api.Cmd {
	if p.oneOf("table", "index") == "table" {
		c := api.Cmd{Kind: api.CmdCreate}
		c.Name = p.name()
		c.Columns = inBrackets(p, p.column)
		return c
	}
	c := api.Cmd{Kind: api.CmdIndex}
	c.Name = p.name()
	p.must("on")
	c.Other = p.name()
	p.must("(")
	c.Column = p.name()
	p.must(")")
	return c
}

func (p *parser) drop() api.Cmd {
	c := api.Cmd{Kind: api.CmdDrop}
	if p.oneOf("table", "index") == "index" {
		c.Kind = api.CmdUnindex
	}
	c.Name = p.name()
	return c
}

func (p *parser) alter() api.Cmd {
	p.must("table")
	c := api.Cmd{Name: p.name()}
	switch p.oneOf("add", "drop", "rename", "retype") {
	case "add":
		c.Kind = api.CmdAdd
		column := p.column()
		c.Column, c.Type = column.Name, column.Type
		p.must("default")
		c.Value = p.value()
	case "drop":
		c.Kind = api.CmdTake
		c.Column = p.name()
	case "rename":
		p.rename(&c)
	case "retype":
		c.Kind = api.CmdRetype
		column := p.column()
		c.Column, c.Type = column.Name, column.Type
	}
	return c
}

// rename a column, or, where none is named, the table.
func (p *parser) rename(c *api.Cmd) {
	c.Kind = api.CmdTable
	if !p.may("to") {
		c.Kind = api.CmdColumn
		c.Column = p.name()
		p.must("to")
	}
	c.Other = p.name()
}

func (p *parser) insert() api.Cmd {
	p.must("into")
	c := api.Cmd{Kind: api.CmdInsert, Name: p.name()}
	p.must("values")
	c.Values = inBrackets(p, p.value)
	return c
}

func (p *parser) delete() api.Cmd {
	p.must("from")
	c := api.Cmd{Kind: api.CmdDelete, Name: p.name()}
	p.where(&c)
	return c
}

func (p *parser) update() api.Cmd {
	c := api.Cmd{Kind: api.CmdUpdate, Name: p.name()}
	p.must("set")
	c.Column = p.name()
	p.must("=")
	c.Expr = p.expr(0)
	p.where(&c)
	return c
}

func (p *parser) choose() api.Cmd {
	c := api.Cmd{Kind: api.CmdSelect, Limit: -1}
	if !p.may("*") {
		c.Fields = listed(p, p.name)
	}
	p.must("from")
	c.Name = p.name()
	p.where(&c)
	if p.may("order", "by") {
		c.Order = p.name()
	}
	if p.may("limit") {
		c.Limit = p.number(0)
	}
	return c
}

func (p *parser) where(c *api.Cmd) {
	c.All = !p.may("where")
	if !c.All {
		c.Where = p.expr(0)
	}
}
