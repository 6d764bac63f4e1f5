package tick

import (
	"cmp"
	"fmt"
	"reflect"
	"slices"
	"strings"
	"testing"

	"overhaul/api"
	"overhaul/command"
	"overhaul/engine"
	"overhaul/row"
	"overhaul/table"
	"overhaul/value"
)

func number(n int) api.Value  { return api.Value{Kind: api.TypeInt, N: n} }
func text(s string) api.Value { return api.Value{Kind: api.TypeText, S: s} }

func parsed(t *testing.T, s string) api.Cmd {
	t.Helper()
	c, at, e := command.Parse(s)
	if e != api.OK {
		t.Fatalf("%q: %d at %d", s, e, at)
	}
	return c
}

// behind commands of which none has an error.
func behind(t *testing.T, e api.Engine, l ...string) api.Engine {
	t.Helper()
	for _, s := range l {
		got, a, f := engine.Do(e, parsed(t, s))
		if f != api.OK || a.Errno != api.OK {
			t.Fatalf("%s: %+v, %d", s, a, f)
		}
		e = got
	}
	return e
}

// copied engine, all of whose lists are its own, and nil if they are empty.
func copied(e api.Engine) api.Engine {
	e.Tables, e.Saved = copiedTables(e.Tables), copiedTables(e.Saved)
	return e
}

func copiedTables(l []api.Table) []api.Table {
	var all []api.Table
	for _, t := range l {
		t.Columns, t.Deltas, t.Rows = append([]api.Column(nil), t.Columns...), append([]api.Delta(nil), t.Deltas...), append([]api.Stored(nil), t.Rows...)
		var indexes []api.Index
		for _, x := range t.Indexes {
			x.Entries = append([]api.Entry(nil), x.Entries...)
			indexes = append(indexes, x)
		}
		t.Indexes = indexes
		all = append(all, t)
	}
	return all
}

func same(a, b api.Engine) bool { return reflect.DeepEqual(copied(a), copied(b)) }

// told: an engine behind a step, told another way, and whether there was one.
func told(e api.Engine) (api.Engine, bool) {
	e = copied(e)
	for i := range e.Tables {
		var old []int
		for at, r := range e.Tables[i].Rows {
			if r.Version < len(e.Tables[i].Deltas) {
				old = append(old, at)
			}
		}
		_, rows, _ := table.Read(e.Tables[i])
		for _, at := range old[:min(len(old), 3)] {
			b, _ := row.Encode(rows[at])
			e.Tables[i].Rows[at] = api.Stored{Number: e.Tables[i].Rows[at].Number, Version: len(e.Tables[i].Deltas), Bytes: b}
		}
		if len(old) > 0 {
			return e, true
		}
	}
	for i, x := range e.Tables {
		if len(x.Deltas) > 0 {
			for at := range x.Rows {
				x.Rows[at].Version = 0
			}
			e.Tables[i].Deltas = nil
			return e, true
		}
	}
	for _, x := range e.Tables {
		_, rows, _ := table.Read(x)
		for k := range x.Indexes {
			if i := &x.Indexes[k]; i.Built < x.Next {
				*i = toldIndex(x, rows, *i)
				return e, true
			}
		}
	}
	return e, false
}

// toldIndex: one in which three rows more are.
func toldIndex(x api.Table, rows [][]api.Value, i api.Index) api.Index {
	more := 0
	for at, r := range x.Rows {
		if r.Number >= i.Built && more < 3 {
			key, _ := value.Key(rows[at][i.At])
			i.Entries = append(i.Entries, api.Entry{Key: key, Number: r.Number})
			more++
			i.Built = r.Number + 1
		}
	}
	if len(i.Entries) == len(x.Rows) {
		i.Built = x.Next
	}
	slices.SortFunc(i.Entries, func(a, b api.Entry) int {
		return cmp.Or(strings.Compare(a.Key, b.Key), a.Number-b.Number)
	})
	return i
}

// ticked: an engine behind a tick, which must be what is told.
func ticked(t *testing.T, e api.Engine) (api.Engine, bool) {
	t.Helper()
	got, is, f := Tick(e)
	want, must := told(e)
	if f != api.OK || is != must || !same(got, want) {
		t.Fatalf("Tick of\n%+v is\n%+v, %v, %d; want\n%+v, %v", e, got, is, f, want, must)
	}
	if f := engine.Check(got); f != api.OK {
		t.Fatalf("Check of %+v is %d", got, f)
	}
	return got, is
}

// cleaned: ticked until all is clean; so many ticks.
func cleaned(t *testing.T, e api.Engine) (api.Engine, int) {
	t.Helper()
	for many := range 101 {
		next, is := ticked(t, e)
		if !is {
			return next, many
		}
		e = next
	}
	t.Fatalf("a hundred ticks do not lead to where all is clean: %+v", e)
	return e, 0
}

// state of an engine: of each table its deltas, the versions of its rows, and how far each index is built.
func state(e api.Engine) string {
	var l []string
	for _, t := range e.Tables {
		s := fmt.Sprint(t.Name, " ", len(t.Deltas), ":")
		for _, r := range t.Rows {
			s += fmt.Sprintf(" %d.%d", r.Number, r.Version)
		}
		for _, x := range t.Indexes {
			s += fmt.Sprintf(" %s%d", x.Name, x.Built)
		}
		l = append(l, s)
	}
	return strings.Join(l, "; ")
}

// shapes: two tables whose rows are of several versions, with gaps between their numbers, and two that have none.
func shapes(t *testing.T) api.Engine {
	t.Helper()
	return behind(t, api.Engine{},
		"create table bird (name text, legs int)",
		"insert into bird values ('wren', 2)",
		"insert into bird values ('gone', 4)",
		"insert into bird values ('tit', null)",
		"alter table bird add seen bool default false",
		"insert into bird values ('owl', 3, true)",
		"insert into bird values ('auk', 2, null)",
		"alter table bird retype legs text",
		"delete from bird where (name = 'gone')",
		"insert into bird values ('emu', '2', true)",
		"update bird set legs = '7' where (name = 'tit')",
		"insert into bird values ('kea', null, false)",
		"alter table bird retype seen int",
		"create index l on bird (legs)",
		"create table empty (a int)",
		"alter table empty add b int default 1",
		"create table nest (twigs int)",
		"insert into nest values (40)",
		"create index n on nest (twigs)",
		"insert into nest values (-40)",
		"alter table nest retype twigs text",
		"create index m on nest (twigs)",
		"create table plain (a int)",
		"insert into plain values (1)",
		"create index p on plain (a)")
}

func TestL1StepByStep(t *testing.T) {
	e := shapes(t)
	for i, want := range []string{
		"bird 3: 1.0 3.2 4.1 5.1 6.2 7.2 l1; empty 1:; nest 1: 1.0 2.0 n1 m1; plain 0: 1.0 p1",
		"bird 3: 1.3 3.3 4.3 5.1 6.2 7.2 l1; empty 1:; nest 1: 1.0 2.0 n1 m1; plain 0: 1.0 p1",
		"bird 3: 1.3 3.3 4.3 5.3 6.3 7.3 l1; empty 1:; nest 1: 1.0 2.0 n1 m1; plain 0: 1.0 p1",
		"bird 3: 1.3 3.3 4.3 5.3 6.3 7.3 l1; empty 1:; nest 1: 1.1 2.1 n1 m1; plain 0: 1.0 p1",
		"bird 0: 1.0 3.0 4.0 5.0 6.0 7.0 l1; empty 1:; nest 1: 1.1 2.1 n1 m1; plain 0: 1.0 p1",
		"bird 0: 1.0 3.0 4.0 5.0 6.0 7.0 l1; empty 0:; nest 1: 1.1 2.1 n1 m1; plain 0: 1.0 p1",
		"bird 0: 1.0 3.0 4.0 5.0 6.0 7.0 l1; empty 0:; nest 0: 1.0 2.0 n1 m1; plain 0: 1.0 p1",
		"bird 0: 1.0 3.0 4.0 5.0 6.0 7.0 l5; empty 0:; nest 0: 1.0 2.0 n1 m1; plain 0: 1.0 p1",
		"bird 0: 1.0 3.0 4.0 5.0 6.0 7.0 l8; empty 0:; nest 0: 1.0 2.0 n1 m1; plain 0: 1.0 p1",
		"bird 0: 1.0 3.0 4.0 5.0 6.0 7.0 l8; empty 0:; nest 0: 1.0 2.0 n3 m1; plain 0: 1.0 p1",
		"bird 0: 1.0 3.0 4.0 5.0 6.0 7.0 l8; empty 0:; nest 0: 1.0 2.0 n3 m3; plain 0: 1.0 p1",
		"bird 0: 1.0 3.0 4.0 5.0 6.0 7.0 l8; empty 0:; nest 0: 1.0 2.0 n3 m3; plain 0: 1.0 p2",
	} {
		if state(e) != want {
			t.Fatalf("%d: it is %s;\nwant %s", i, state(e), want)
		}
		next, is := ticked(t, e)
		if is != (i < 11) {
			t.Fatalf("%d: it is %v", i, is)
		}
		e = next
	}
}

// What is stored behind the ticks is what was read ahead of them, as bytes.
func TestL1BytesAreOfTheValuesNow(t *testing.T) {
	e := shapes(t)
	_, was, _ := table.Read(e.Tables[0])
	first, _ := ticked(t, e)
	for at, want := range [][]api.Value{
		{text("wren"), text("2"), number(0)}, {text("tit"), text("7"), number(0)}, {text("owl"), text("3"), number(1)},
	} {
		b, _ := row.Encode(want)
		if got := first.Tables[0].Rows[at].Bytes; got != b {
			t.Errorf("%v: it is %q; want %q", want, got, b)
		}
	}
	for at := 3; at < 6; at++ {
		if first.Tables[0].Rows[at] != e.Tables[0].Rows[at] {
			t.Errorf("it is %+v; want %+v", first.Tables[0].Rows[at], e.Tables[0].Rows[at])
		}
	}
	last, _ := cleaned(t, e)
	for at, r := range last.Tables[0].Rows {
		if l, f := row.Decode(r.Bytes); f != api.OK || !slices.Equal(l, was[at]) {
			t.Errorf("it is %v, %d; want %v", l, f, was[at])
		}
	}
	_, now, _ := table.Read(last.Tables[0])
	if !reflect.DeepEqual(now, was) {
		t.Errorf("they are %v; want %v", now, was)
	}
}

// old: a table of so many rows, all of them or but those of some places behind its delta.
func old(t *testing.T, rows int, newest ...int) api.Engine {
	t.Helper()
	e := behind(t, api.Engine{}, "create table t (a int)")
	for k := range rows {
		e = behind(t, e, fmt.Sprintf("insert into t values (%d)", k))
	}
	e = behind(t, e, "alter table t retype a text")
	for _, k := range newest {
		e = behind(t, e, fmt.Sprintf("update t set a = a where (a = '%d')", k))
	}
	return e
}

// A step takes as many rows as Batch, no more, and fewer where there are fewer; those between that are newest do not count.
func TestL1Batch(t *testing.T) {
	for _, c := range []struct {
		e    api.Engine
		want []int // how many rows are of the newest version behind each tick
	}{
		{old(t, 0), nil}, {old(t, 1), []int{1}}, {old(t, 2), []int{2}}, {old(t, 3), []int{3}}, {old(t, 4), []int{3, 4}}, {old(t, 6), []int{3, 6}}, {old(t, 7), []int{3, 6, 7}},
		{old(t, 7, 0, 3, 6), []int{6, 7}}, {old(t, 7, 0, 1, 2), []int{6, 7}}, {old(t, 7, 1, 3, 4, 5), []int{7}}, {old(t, 30), []int{3, 6, 9, 12, 15, 18, 21, 24, 27, 30}},
	} {
		e := c.e
		for _, want := range c.want {
			next, is := ticked(t, e)
			many := 0
			for _, r := range next.Tables[0].Rows {
				many += r.Version
			}
			if !is || many != want || len(next.Tables[0].Deltas) != 1 {
				t.Fatalf("it is %s, %v; want %d", state(next), is, want)
			}
			e = next
		}
		next, is := ticked(t, e)
		if !is || len(next.Tables[0].Deltas) > 0 {
			t.Fatalf("it is %s, %v", state(next), is)
		}
		if next, is = ticked(t, next); is {
			t.Fatalf("it is %s", state(next))
		}
	}
}

// As many deltas as there may be, and rows of each version.
func TestL1MaxDeltas(t *testing.T) {
	e := behind(t, api.Engine{}, "create table t (a int, b int)", "create index i on t (b)")
	for k, s := range []string{"alter table t retype a text", "alter table t add c bool default true", "alter table t drop a", "alter table t retype c text", "alter table t add d text default 'x'", "alter table t retype b text"} {
		l := make([]string, len(e.Tables[0].Columns))
		for i, c := range e.Tables[0].Columns {
			l[i] = []string{"", "5", "'6'", "true"}[c.Type]
		}
		e = behind(t, e, "insert into t values ("+strings.Join(l, ", ")+")", s)
		if len(e.Tables[0].Deltas) != k+1 {
			t.Fatalf("it is %s", state(e))
		}
	}
	e = behind(t, e, "insert into t values ('7', 'false', 'y')")
	if got := state(e); got != "t 6: 1.0 2.1 3.2 4.3 5.4 6.5 7.6 i1" {
		t.Fatalf("it is %s", got)
	}
	last, many := cleaned(t, e)
	if got := state(last); got != "t 0: 1.0 2.0 3.0 4.0 5.0 6.0 7.0 i8" || many != 6 {
		t.Errorf("it is %s; %d", got, many)
	}
	_, rows, _ := table.Read(last.Tables[0])
	if got := fmt.Sprint(rows); got != "[[{2 0 5} {2 0 true} {2 0 x}] [{2 0 5} {2 0 true} {2 0 x}] [{2 0 5} {2 0 true} {2 0 x}] [{2 0 5} {2 0 true} {2 0 x}] [{2 0 5} {2 0 6} {2 0 x}] [{2 0 5} {2 0 6} {2 0 6}] [{2 0 7} {2 0 false} {2 0 y}]]" {
		t.Errorf("they are %s", got)
	}
}

// What is saved stays as it is, and comes again as it was.
func TestL1SavedStays(t *testing.T) {
	e := behind(t, shapes(t), "begin")
	was := copied(e)
	if len(was.Saved) != 4 {
		t.Fatalf("it is %+v", was)
	}
	next, is := e, true
	for is {
		next, is = ticked(t, next)
		if !next.Within || !reflect.DeepEqual(copied(next).Saved, was.Saved) {
			t.Fatalf("it is %+v; want %+v", next.Saved, was.Saved)
		}
	}
	if len(next.Tables[0].Deltas) > 0 {
		t.Errorf("it is %s", state(next))
	}
	if got := behind(t, next, "rollback"); !same(got, shapes(t)) {
		t.Errorf("it is %s", state(got))
	}
	// A clean engine has no step, whatever is saved.
	e = behind(t, shapes(t), "begin", "drop table bird", "drop table empty", "drop table nest", "drop table plain")
	if _, is := ticked(t, e); is {
		t.Error("there is a step")
	}
}

// Where there is no step, the engine is answered as it is.
func TestL1False(t *testing.T) {
	for _, l := range [][]string{
		{},
		{"begin"},
		{"create table t (a int)"},
		{"create table t (a int)", "insert into t values (1)"},
		{"create table t (a int)", "create index i on t (a)"},
		{"create table t (a int)", "create index i on t (a)", "insert into t values (1)", "insert into t values (1)", "begin", "insert into t values (null)"},
		{"create table t (a int)", "insert into t values (1)", "begin", "delete from t"},
	} {
		e := behind(t, api.Engine{}, l...)
		next, is := ticked(t, e)
		if is || !same(next, e) {
			t.Errorf("%q: it is %+v, %v", l, next, is)
		}
		if next, many, f := Clean(e); f != api.OK || many != 0 || !same(next, e) {
			t.Errorf("%q: it is %+v, %d, %d", l, next, many, f)
		}
	}
}

// An index in which all rows are, but that does not reach Next, is not done yet.
func TestL1AnIndexThatIsNearlyDone(t *testing.T) {
	e := behind(t, api.Engine{}, "create table t (a int)", "insert into t values (1)", "insert into t values (2)", "insert into t values (3)", "insert into t values (4)", "create index i on t (a)")
	e, _ = ticked(t, e)
	e = behind(t, e, "delete from t where (a = 4)")
	if state(e) != "t 0: 1.0 2.0 3.0 i4" {
		t.Fatalf("it is %s", state(e))
	}
	e, is := ticked(t, e)
	if !is || state(e) != "t 0: 1.0 2.0 3.0 i5" {
		t.Errorf("it is %s, %v", state(e), is)
	}
	e = behind(t, e, "delete from t", "create index j on t (a)")
	if next, is := ticked(t, e); !is || state(next) != "t 0: i5 j5" {
		t.Errorf("it is %s, %v", state(next), is)
	}
}

func TestL2Clean(t *testing.T) {
	for _, e := range []api.Engine{shapes(t), behind(t, shapes(t), "begin"), old(t, 30), old(t, 0), old(t, 4, 2), {}} {
		want, many := cleaned(t, e)
		got, n, f := Clean(e)
		if f != api.OK || n != many || !same(got, want) {
			t.Errorf("it is %s, %d, %d; want %s, %d", state(got), n, f, state(want), many)
		}
		if again, n, f := Clean(got); f != api.OK || n != 0 || !same(again, got) {
			t.Errorf("it is %s, %d, %d", state(again), n, f)
		}
	}
	if _, n, _ := Clean(shapes(t)); n != 11 {
		t.Errorf("they are %d", n)
	}
}

// What is wrong with the engine is all that is told.
func TestL1L2Errors(t *testing.T) {
	for _, c := range []struct {
		do   func(*api.Engine)
		want api.Errno
	}{
		{func(e *api.Engine) { e.Tables = make([]api.Table, api.MaxTables+1) }, api.ErrMany},
		{func(e *api.Engine) { e.Saved = make([]api.Table, api.MaxTables+1) }, api.ErrMany},
		{func(e *api.Engine) { e.Tables[3].Name = "" }, api.ErrForm},
		{func(e *api.Engine) { e.Tables[3].Name = "bird" }, api.ErrTwice},
		{func(e *api.Engine) { e.Tables[2].Columns[0].Type = 4 }, api.ErrKind},
		{func(e *api.Engine) { e.Tables[0].Rows[5].Version = 4 }, api.ErrRange},
		{func(e *api.Engine) { e.Tables[0].Rows[5].Version = -1 }, api.ErrRange},
		{func(e *api.Engine) { e.Tables[0].Rows[5].Bytes = "" }, api.ErrForm},
		{func(e *api.Engine) { e.Tables[0].Rows[5].Number = 6 }, api.ErrState},
		{func(e *api.Engine) { e.Tables[0].Deltas = nil }, api.ErrState},
		{func(e *api.Engine) { e.Tables[2].Indexes[1].Name = "p" }, api.ErrTwice},
		{func(e *api.Engine) { e.Tables[2].Indexes[1].At = 1 }, api.ErrNone},
		{func(e *api.Engine) { e.Tables[2].Indexes[1].Built = 3 }, api.ErrState},
		{func(e *api.Engine) { e.Saved = copiedTables(e.Tables) }, api.ErrState},
		{func(e *api.Engine) { e.Within, e.Saved = true, []api.Table{{Name: "t"}} }, api.ErrForm},
	} {
		e := copied(shapes(t))
		c.do(&e)
		got, is, f := Tick(e)
		if f != c.want || is || !reflect.DeepEqual(got, api.Engine{}) {
			t.Errorf("Tick of %+v is %+v, %v, %d; want %d", e, got, is, f, c.want)
		}
		got, many, f := Clean(e)
		if f != c.want || many != 0 || !reflect.DeepEqual(got, api.Engine{}) {
			t.Errorf("Clean of %+v is %+v, %d, %d; want %d", e, got, many, f, c.want)
		}
	}
}
