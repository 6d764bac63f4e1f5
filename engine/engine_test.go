package engine

import (
	"reflect"
	"strconv"
	"strings"
	"testing"

	"overhaul/api"
	"overhaul/command"
	"overhaul/table"
)

func number(n int) api.Value  { return api.Value{Kind: api.TypeInt, N: n} }
func text(s string) api.Value { return api.Value{Kind: api.TypeText, S: s} }
func truth(n int) api.Value   { return api.Value{Kind: api.TypeBool, N: n} }

var none = api.Value{}

func errnoName(e api.Errno) string {
	return []string{"OK", "ErrForm", "ErrMany", "ErrRange", "ErrState", "ErrNone", "ErrTwice", "ErrKind", "ErrSpace"}[e]
}

func shownValue(v api.Value) string {
	switch v.Kind {
	case api.TypeInt:
		return strconv.Itoa(v.N)
	case api.TypeText:
		return "'" + v.S + "'"
	case api.TypeBool:
		return strconv.FormatBool(v.N == 1)
	}
	return "-"
}

// shown answer: its Errno, how many, and its rows: just those that are not empty.
func shown(a api.Answer) string {
	var parts []string
	if a.Errno != api.OK {
		parts = append(parts, errnoName(a.Errno))
	}
	if a.Many != 0 {
		parts = append(parts, strconv.Itoa(a.Many)+" changed")
	}
	for _, r := range a.Rows {
		var l []string
		for _, v := range r {
			l = append(l, shownValue(v))
		}
		parts = append(parts, strings.Join(l, " "))
	}
	return strings.Join(parts, "; ")
}

func parsed(t *testing.T, s string) api.Cmd {
	t.Helper()
	c, at, e := command.Parse(s)
	if e != api.OK {
		t.Fatalf("%q: %d at %d", s, e, at)
	}
	return c
}

// emptied: lists without elements are nil, so that engines can be held against each other.
func emptied(e api.Engine) api.Engine {
	e.Tables, e.Saved = emptiedTables(e.Tables), emptiedTables(e.Saved)
	return e
}

func emptiedTables(l []api.Table) []api.Table {
	var all []api.Table
	for _, t := range l {
		t.Columns, t.Deltas, t.Rows = append([]api.Column(nil), t.Columns...), append([]api.Delta(nil), t.Deltas...), append([]api.Stored(nil), t.Rows...)
		var indexes []api.Index
		for _, x := range t.Indexes {
			x.Entries = append([]api.Entry(nil), x.Entries...)
			indexes = append(indexes, x)
		}
		t.Indexes = indexes
		all = append(all, t)
	}
	return all
}

func wantSame(t *testing.T, what string, got, want api.Engine) {
	t.Helper()
	if !reflect.DeepEqual(emptied(got), emptied(want)) {
		t.Errorf("%s: it is\n%+v; want\n%+v", what, got, want)
	}
}

// done: an engine behind a command, whose answer must be this one. An error, or a select, leaves the engine as it is.
func done(t *testing.T, e api.Engine, s, want string) api.Engine {
	t.Helper()
	c := parsed(t, s)
	got, a, f := Do(e, c)
	if f != api.OK || shown(a) != want {
		t.Errorf("%s: it is %q, %d; want %q", s, shown(a), f, want)
	}
	if a.Errno != api.OK || c.Kind == api.CmdSelect {
		wantSame(t, s, got, e)
	}
	if f := Check(got); f != api.OK {
		t.Errorf("%s: Check of what comes is %d", s, f)
	}
	return got
}

// line of a script: a command, and its answer.
type line struct{ s, want string }

func played(t *testing.T, e api.Engine, l ...line) api.Engine {
	t.Helper()
	for _, x := range l {
		e = done(t, e, x.s, x.want)
	}
	return e
}

// behind commands of which none has an error.
func behind(t *testing.T, e api.Engine, l ...string) api.Engine {
	t.Helper()
	for _, s := range l {
		got, a, f := Do(e, parsed(t, s))
		if f != api.OK || a.Errno != api.OK {
			t.Fatalf("%s: %+v, %d", s, a, f)
		}
		e = got
	}
	return e
}

// birds: two tables with rows of several versions, and indexes.
func birds(t *testing.T) api.Engine {
	t.Helper()
	return behind(t, api.Engine{},
		"create table bird (name text, legs int)",
		"insert into bird values ('wren', 2)",
		"insert into bird values ('tit', null)",
		"alter table bird add seen bool default false",
		"insert into bird values ('owl', 3, true)",
		"create index l on bird (legs)",
		"insert into bird values ('auk', 2, null)",
		"create table nest (twigs int)",
		"create index n on nest (twigs)",
		"insert into nest values (40)")
}

// The document's own example.
func TestJ2TheExample(t *testing.T) {
	e := behind(t, api.Engine{},
		"create table bird (name text, legs int)",
		"insert into bird values ('wren', 2)",
		"alter table bird add seen bool default false",
		"insert into bird values ('tit', null, true)",
		"alter table bird retype legs text")
	e = done(t, e, "select * from bird where not seen", "'wren' '2' false")
	x := e.Tables[0]
	if want := (api.Stored{Number: 1, Bytes: "\x02\x02\x04wren\x01\x01\xca\x9a\x3b"}); x.Rows[0] != want || len(x.Deltas) != 2 {
		t.Errorf("it is %+v", x)
	}
}

// Do: what is wrong with the engine tells ahead of what is wrong with the command, and with either nothing else comes.
func TestJ2ErrorsOfDo(t *testing.T) {
	right := parsed(t, "begin")
	many := api.Cmd{Kind: api.CmdDrop, Name: "t", Values: make([]api.Value, 6)}
	wrong := birds(t)
	wrong.Tables[1].Name = "bird"
	for i, c := range []struct {
		e     api.Engine
		c     api.Cmd
		errno api.Errno
	}{
		{wrong, right, api.ErrTwice},
		{wrong, api.Cmd{}, api.ErrTwice},
		{wrong, many, api.ErrTwice},
		{birds(t), api.Cmd{}, api.ErrForm},
		{birds(t), many, api.ErrMany},
		{birds(t), api.Cmd{Kind: 17}, api.ErrForm},
		{birds(t), api.Cmd{Kind: -1}, api.ErrForm},
		{birds(t), api.Cmd{Kind: api.CmdDrop, Name: "table"}, api.ErrForm},
		{birds(t), api.Cmd{Kind: api.CmdBegin, Name: "bird"}, api.ErrForm},
		{birds(t), api.Cmd{Kind: api.CmdInsert, Name: "bird", Values: []api.Value{{Kind: 4}}}, api.ErrForm},
		{birds(t), api.Cmd{Kind: api.CmdSelect, Name: "bird", All: true, Limit: -2}, api.ErrForm},
		{birds(t), right, api.OK},
	} {
		got, a, f := Do(c.e, c.c)
		if f != c.errno {
			t.Errorf("%d: it is %d; want %d", i, f, c.errno)
		}
		if f != api.OK && !reflect.DeepEqual(got, api.Engine{}) || !reflect.DeepEqual(a, api.Answer{}) {
			t.Errorf("%d: it is %+v, %+v", i, got, a)
		}
	}
}

// What Do makes of the table of a number is what a call of tables makes of it; all else stays.
func wantTable(t *testing.T, e api.Engine, s, answer string, at int, told func(api.Table) (api.Table, api.Errno)) {
	t.Helper()
	want := e
	want.Tables = append([]api.Table(nil), e.Tables...)
	x, f := told(e.Tables[at])
	if f != api.OK {
		t.Fatalf("%s: %d", s, f)
	}
	want.Tables[at] = x
	wantSame(t, s, done(t, e, s, answer), want)
}

func TestJ2WhatTablesAreTold(t *testing.T) {
	e := birds(t)
	wantTable(t, e, "alter table bird add eggs int default 7", "", 0, func(x api.Table) (api.Table, api.Errno) {
		return table.Alter(x, api.Delta{Kind: api.DeltaAdd, Type: api.TypeInt, Value: number(7)}, "eggs")
	})
	wantTable(t, e, "alter table bird add eggs text default null", "", 0, func(x api.Table) (api.Table, api.Errno) {
		return table.Alter(x, api.Delta{Kind: api.DeltaAdd, Type: api.TypeText}, "eggs")
	})
	wantTable(t, e, "alter table bird drop name", "", 0, func(x api.Table) (api.Table, api.Errno) {
		return table.Alter(x, api.Delta{Kind: api.DeltaTake, At: 0}, "")
	})
	wantTable(t, e, "alter table bird drop legs", "", 0, func(x api.Table) (api.Table, api.Errno) {
		return table.Alter(x, api.Delta{Kind: api.DeltaTake, At: 1}, "")
	})
	wantTable(t, e, "alter table bird retype seen text", "", 0, func(x api.Table) (api.Table, api.Errno) {
		return table.Alter(x, api.Delta{Kind: api.DeltaRetype, At: 2, Type: api.TypeText}, "")
	})
	wantTable(t, e, "alter table nest retype twigs int", "", 1, func(x api.Table) (api.Table, api.Errno) {
		return table.Alter(x, api.Delta{Kind: api.DeltaRetype, At: 0, Type: api.TypeInt}, "")
	})
	wantTable(t, e, "insert into nest values (-3)", "", 1, func(x api.Table) (api.Table, api.Errno) {
		return table.Insert(x, []api.Value{number(-3)})
	})
	wantTable(t, e, "delete from bird where (legs = 2)", "2 changed", 0, func(x api.Table) (api.Table, api.Errno) {
		return table.Delete(x, []int{1, 4})
	})
	wantTable(t, e, "update bird set legs = (legs + 1) where (seen is null)", "1 changed", 0, func(x api.Table) (api.Table, api.Errno) {
		return table.Update(x, []int{4}, 1, []api.Value{number(3)})
	})
	wantTable(t, e, "update bird set name = 'x'", "4 changed", 0, func(x api.Table) (api.Table, api.Errno) {
		return table.Update(x, []int{1, 2, 3, 4}, 0, []api.Value{text("x"), text("x"), text("x"), text("x")})
	})
	wantTable(t, e, "delete from nest where (twigs < 40)", "", 1, func(x api.Table) (api.Table, api.Errno) { return x, api.OK })
	wantTable(t, e, "update nest set twigs = null where (twigs < 40)", "", 1, func(x api.Table) (api.Table, api.Errno) { return x, api.OK })
}
