package session

import (
	"slices"
	"strings"
	"testing"

	"overhaul/api"
	"overhaul/engine"
	"overhaul/tick"
)

// lineByLine: what comes of lines by the calls of other chapters alone, all of them clean behind each.
func lineByLine(t *testing.T, l ...string) api.Engine {
	t.Helper()
	var e api.Engine
	for _, s := range l {
		e, _ = oneByOne(t, e, []string{s})
		var f api.Errno
		if e, _, f = tick.Clean(e); f != api.OK {
			t.Fatalf("%s: it is %d", s, f)
		}
	}
	return e
}

func TestO3Lines(t *testing.T) {
	for _, c := range []struct {
		name  string
		texts []string
		lines []string // those that do something
	}{
		{"no texts", nil, nil},
		{"texts without bytes", []string{"", "", "\n", "\n\n"}, nil},
		{"a line each", []string{"create table t (a int)", "insert into t values (1)"}, []string{"create table t (a int)", "insert into t values (1)"}},
		{"all in one", []string{"create table t (a int)\ninsert into t values (1)\nalter table t drop a\nalter table t add b int default 3"}, []string{"create table t (a int)", "insert into t values (1)", "alter table t add b int default 3"}},
		{"line feeds at both ends", []string{"\ncreate table t (a int)\n", "\n\ninsert into t values (1)\n\n"}, []string{"create table t (a int)", "insert into t values (1)"}},
		{"a line feed within a command parts it", []string{"create table t\n(a int)", "create table u (a int)"}, []string{"create table u (a int)"}},
		{"other signs part no lines", []string{"create table t\t(a int)  ", "create table u (a int)\rcreate table v (a int)", "create table w (a int);create table v (a int)"}, []string{"create table t (a int)"}},
		{"errors of all kinds", []string{"x\ncreate table t (a int)\ncreate table t (a int)\ninsert into t values ('x')\n\x00\ndrop table u", "commit", "insert into t values (1)"}, []string{"create table t (a int)", "insert into t values (1)"}},
		{"what changes nothing", []string{"create table t (a int)", "tick\nselect * from t\ntick", "select * from u", "insert into t values (2)"}, []string{"create table t (a int)", "insert into t values (2)"}},
		{"a transaction", []string{"create table t (a int)", "begin", "insert into t values (2)", "commit"}, []string{"create table t (a int)", "insert into t values (2)"}},
		{"rolled back", []string{"create table t (a int)", "begin\ninsert into t values (2)\ndrop table t\nrollback"}, []string{"create table t (a int)"}},
		{"left open", []string{"create table t (a int)\ninsert into t values (1)\nbegin\ndelete from t"}, []string{"create table t (a int)", "insert into t values (1)", "begin", "delete from t"}},
	} {
		e := reopened(t, appended(t, formatted(t, 100), c.texts...))
		if want := lineByLine(t, c.lines...); !same(e, want) {
			t.Errorf("%s: it is %+v; want %+v", c.name, e, want)
		}
	}
}

// There may be more lines than a session has texts.
func TestO3ManyLines(t *testing.T) {
	var l []string
	for range 10 {
		l = append(l, strings.Repeat("drop table t\ncreate table t (a int)\ninsert into t values (1)\n", 30))
	}
	l = append(l, "insert into t values (2)")
	e := reopened(t, appended(t, formatted(t, 400), l...))
	if want := lineByLine(t, "create table t (a int)", "insert into t values (1)", "insert into t values (2)"); !same(e, want) {
		t.Errorf("it is %+v; want %+v", e, want)
	}
	// As many texts as there may be.
	d := appended(t, formatted(t, 400), "create table t (a int)", "insert into t values (0)")
	for range 397 {
		d = appended(t, d, "update t set a = (a + 1)")
	}
	wantEnd(t, "full", d, []string{"select * from t", "delete from t"}, api.ErrSpace, 1, append([]string{"create table t (a int)", "insert into t values (0)"}, slices.Repeat([]string{"update t set a = (a + 1)"}, 397)...)...)
	_, answers, _ := Run(reopened(t, d), []string{"select * from t"})
	if got := inWords(answers[0]); got != "397" {
		t.Errorf("it is %s", got)
	}
}

// Behind each line all is clean: so more lines than a table may have deltas are done, and nothing is left for a tick.
func TestO3Clean(t *testing.T) {
	lines := []string{"create table t (a int)", "create table u (a int)", "create index i on t (a)", "create index j on u (a)"}
	for range 7 {
		lines = append(lines, "insert into t values (7)", "insert into u values (7)")
	}
	for range 2*api.MaxDeltas + 1 {
		lines = append(lines, "alter table t retype a text", "alter table t retype a int")
	}
	lines = append(lines, "alter table t retype a text")
	for by := range 10 {
		var texts []string
		for l := range slices.Chunk(lines, by+1) {
			texts = append(texts, strings.Join(l, "\n"))
		}
		e := reopened(t, appended(t, formatted(t, 400), texts...))
		if want := lineByLine(t, lines...); !same(e, want) || engine.Check(e) != api.OK {
			t.Errorf("it is %+v; want %+v", e, want)
		}
		if _, is, _ := tick.Tick(e); is || e.Tables[0].Columns[0].Type != api.TypeText {
			t.Errorf("it is %+v", e)
		}
		if i := e.Tables[0].Indexes[0]; i.Built != 8 || len(i.Entries) != 7 {
			t.Errorf("it is %+v", i)
		}
	}
	// In a transaction, too; what is saved stays as it is.
	e := reopened(t, appended(t, formatted(t, 400), append(lines, "begin", "alter table t retype a int", "alter table u drop a", "alter table u add b int default 1")...))
	if _, is, _ := tick.Tick(e); is || !e.Within || !same(e.Saved, lineByLine(t, lines...).Tables) {
		t.Errorf("it is %+v", e)
	}
}

func TestO3ByWhatIsKeptAlone(t *testing.T) {
	d := appended(t, formatted(t, 20), "create table t (a int)")
	want := reopened(t, d)
	d.Written = []api.Written{{Sector: 0, Bytes: strings.Repeat("\x00", api.SectorSize)}, {Sector: 1, Bytes: strings.Repeat("x", api.SectorSize)}}
	if e := reopened(t, d); !same(e, want) || len(e.Tables) != 1 {
		t.Errorf("it is %+v", e)
	}
}

// asked of each table at the end, outside a transaction.
func asked(e api.Engine) []string {
	l := []string{"select * from zz"}
	for _, x := range e.Tables {
		l = append(l, "select * from "+x.Name)
		for _, c := range x.Columns {
			l = append(l, "select "+c.Name+" from "+x.Name+" where not ("+c.Name+" is null) order by "+c.Name, "select * from "+x.Name+" order by "+c.Name+" limit 2")
		}
	}
	return l
}

// wantReopened: whatever a select answers at the end, it answers of what is reopened.
func wantReopened(t *testing.T, name string, l []string) {
	t.Helper()
	e, _, _ := Run(api.Engine{}, l)
	selects := asked(e)
	d, _, f := Play(formatted(t, 400), l)
	if f != api.OK {
		t.Fatalf("%s: it is %d", name, f)
	}
	for _, s := range selects {
		_, want, _ := Run(e, []string{s})
		_, got, _ := Run(reopened(t, d), []string{s})
		_, again, f := Play(d, []string{s})
		if f != api.OK || !same(got, want) || !same(again, want) {
			t.Errorf("%s: %s: it is %q, %q; want %q", name, s, allInWords(got), allInWords(again), allInWords(want))
		}
	}
}

func TestO4WhatWasPlayedIsReopened(t *testing.T) {
	shaped := []string{
		"create table bird (name text, legs int)", "insert into bird values ('wren', 2)", "alter table bird add seen bool default false", "insert into bird values ('tit', null, true)", "create index l on bird (legs)",
	}
	var retyped []string
	for range api.MaxDeltas + 2 {
		retyped = append(retyped, "alter table bird retype legs text", "tick", "alter table bird retype legs int", "tick", "tick")
	}
	for _, c := range []struct {
		name string
		l    []string
	}{
		{"the example", append(shaped, "alter table bird retype legs text")},
		{"limits that ticks had lifted", slices.Concat(shaped, retyped)},
		{"limits that no tick had lifted", slices.Concat(shaped, slices.Repeat([]string{"alter table bird retype legs text", "alter table bird retype legs int"}, api.MaxDeltas), []string{"alter table bird retype legs bool"})},
		{"committed", append(shaped, "begin", "insert into bird values ('owl', 3, true)", "alter table bird rename to fowl", "commit")},
		{"committed with errors", append(shaped, "begin", "insert into bird values ('owl', 'x', true)", "alter table bird rename to fowl", "drop table bird", "begin", "insert into fowl values ('emu', 4, null)", "commit")},
		{"rolled back", append(shaped, "begin", "insert into bird values ('owl', 3, true)", "alter table bird rename to fowl", "rollback", "insert into bird values ('auk', 4, true)")},
		{"a limit lifted by a tick that is rolled back", slices.Concat(shaped, slices.Repeat([]string{"alter table bird retype legs text", "alter table bird retype legs int"}, 2), []string{"begin", "tick", "tick", "alter table bird add z int default 1", "rollback", "alter table bird add y int default 2", "alter table bird add x int default 3", "alter table bird drop seen"})},
		{"casts that lose", append(shaped, "update bird set name = (name || '9')", "alter table bird retype name int", "alter table bird retype name text", "insert into bird values ('1', 1, false)", "alter table bird retype name int")},
		{"all rows", slices.Concat([]string{"create table t (a int)"}, slices.Repeat([]string{"insert into t values (1)"}, api.MaxRows+1), []string{"delete from t where (a = 2)", "update t set a = (a + a)", "insert into t values (7)"})},
		{"all tables", []string{"create table t (a int)", "create table u (a int)", "create table v (a int)", "create table w (a int)", "create table x (a int)", "insert into x values (1)", "drop table u", "create table x (b bool)", "insert into x values (true)"}},
	} {
		for many := range c.l {
			e, _, _ := Run(api.Engine{}, c.l[:many+1])
			if !e.Within {
				wantReopened(t, c.name, c.l[:many+1])
			}
		}
	}
}

// A transaction that is left open is not there.
func TestO4LeftOpen(t *testing.T) {
	d := played(t, formatted(t, 20), line{"create table t (a int)", ""}, line{"insert into t values (1)", ""}, line{"begin", ""}, line{"insert into t values (2)", ""}, line{"select * from t", "1; 2"})
	played(t, d, line{"select * from t", "1"}, line{"commit", "error 4"})
	if e := reopened(t, d); e.Within || len(e.Saved) > 0 {
		t.Errorf("it is %+v", e)
	}
}
