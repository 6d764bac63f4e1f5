package engine

import (
	"slices"

	"overhaul/api"
	"overhaul/fresh"
	"overhaul/named"
	"overhaul/table"
)

// doer of a command: the engine, which is the doer's own to change, and the answer.
type doer struct {
	api.Engine
	answer api.Answer
}

func (d *doer) do(c api.Cmd) api.Errno {
	switch c.Kind {
	case api.CmdCreate:
		return d.create(c)
	case api.CmdUnindex:
		return d.unindex(c.Name)
	case api.CmdIndex:
		// Of an index Name is its own.
		return d.inTable(c.Other, c)
	case api.CmdBegin:
		return d.begin()
	case api.CmdCommit, api.CmdRollback:
		return d.end(c.Kind)
	}
	return d.inTable(c.Name, c)
}

func (d *doer) create(c api.Cmd) api.Errno {
	switch {
	case named.Table(d.Tables, c.Name) >= 0:
		return api.ErrTwice
	case len(d.Tables) == api.MaxTables:
		return api.ErrMany
	case hasTwice(c.Columns, func(c api.Column) string { return c.Name }):
		return api.ErrTwice
	}
	d.Tables = append(d.Tables, api.Table{Name: c.Name, Columns: slices.Clone(c.Columns), Next: 1})
	return api.OK
}

func (d *doer) unindex(name string) api.Errno {
	for i := range d.Tables {
		t := &d.Tables[i]
		if at := named.Index(t.Indexes, name); at >= 0 {
			t.Indexes = slices.Delete(t.Indexes, at, at+1)
			return api.OK
		}
	}
	return api.ErrNone
}

func (d *doer) begin() api.Errno {
	if d.Within {
		return api.ErrState
	}
	d.Within = true
	d.Saved = fresh.Tables(d.Tables)
	return api.OK
}

// end of a transaction, of either kind.
func (d *doer) end(kind int) api.Errno {
	if !d.Within {
		return api.ErrState
	}
	if kind == api.CmdRollback {
		d.Tables = d.Saved
	}
	d.Within = false
	d.Saved = nil
	return api.OK
}

// inTable: what a command does that names a table.
func (d *doer) inTable(name string, c api.Cmd) api.Errno {
	at := named.Table(d.Tables, name)
	if at < 0 {
		return api.ErrNone
	}
	t := &d.Tables[at]
	switch c.Kind {
	case api.CmdDrop:
		d.Tables = slices.Delete(d.Tables, at, at+1)
		return api.OK
	case api.CmdTable:
		return d.rename(t, c.Other)
	case api.CmdAdd:
		return alter(t, api.Delta{Kind: api.DeltaAdd, Type: c.Type, Value: c.Value}, c.Column)
	case api.CmdInsert:
		return insert(t, c.Values)
	case api.CmdDelete:
		return d.delete(t, c)
	case api.CmdSelect:
		return d.choose(*t, c)
	}
	return d.inColumn(t, c)
}

// inColumn: what a command does that names a column that must be there.
func (d *doer) inColumn(t *api.Table, c api.Cmd) api.Errno {
	at := named.Column(t.Columns, c.Column)
	if at < 0 {
		return api.ErrNone
	}
	switch c.Kind {
	case api.CmdTake:
		return alter(t, api.Delta{Kind: api.DeltaTake, At: at}, "")
	case api.CmdRetype:
		return alter(t, api.Delta{Kind: api.DeltaRetype, At: at, Type: c.Type}, "")
	case api.CmdColumn:
		return renameColumn(t, at, c.Other)
	case api.CmdIndex:
		return d.index(t, at, c.Name)
	}
	return d.update(t, at, c)
}

func (d *doer) rename(t *api.Table, name string) api.Errno {
	if name != t.Name && named.Table(d.Tables, name) >= 0 {
		return api.ErrTwice
	}
	t.Name = name
	return api.OK
}

func renameColumn(t *api.Table, at int, name string) api.Errno {
	if name != t.Columns[at].Name && named.Column(t.Columns, name) >= 0 {
		return api.ErrTwice
	}
	t.Columns[at].Name = name
	return api.OK
}

func (d *doer) index(t *api.Table, at int, name string) api.Errno {
	all := indexesOf(d.Tables)
	switch {
	case named.Index(all, name) >= 0:
		return api.ErrTwice
	case len(all) == api.MaxIndexes:
		return api.ErrMany
	}
	t.Indexes = append(t.Indexes, api.Index{Name: name, At: at, Built: 1})
	return api.OK
}

func alter(t *api.Table, d api.Delta, name string) (f api.Errno) {
	*t, f = table.Alter(*t, d, name)
	return f
}
