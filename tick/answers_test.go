package tick

import (
	"fmt"
	"reflect"
	"slices"
	"testing"

	"overhaul/api"
	"overhaul/engine"
)

// asked: commands of all kinds, with errors and without.
func asked() []string {
	return []string{
		"create table x (a int)", "create table bird (a int)", "create table x (a int, a int)", "drop table nest", "drop table zz",
		"alter table bird add z int default 1", "alter table bird add legs int default 1", "alter table bird add z int default 'x'", "alter table empty add z bool default null",
		"alter table bird drop legs", "alter table bird drop zz", "alter table nest drop twigs", "alter table bird rename legs to z", "alter table bird rename legs to name",
		"alter table bird retype seen text", "alter table nest retype twigs int", "alter table bird rename to z", "alter table bird rename to nest", "create index z on bird (name)",
		"create index l on bird (name)", "create index z on bird (zz)", "drop index l", "drop index zz", "insert into bird values ('x', '1', null)", "insert into bird values ('x', 1, null)",
		"insert into nest values ('1')", "insert into nest values (1, 2)", "delete from bird where (legs = '2')", "delete from bird", "delete from nest where (twigs = '40')", "delete from bird where zz",
		"update bird set legs = (legs || name) where (seen = 0)", "update bird set seen = (seen + 1)", "update bird set zz = 1", "update bird set legs = 1", "select * from bird",
		"select * from bird where (legs = '2') order by name", "select name from bird where (legs is null)", "select seen, seen from bird order by legs limit 3", "select * from bird where legs",
		"select * from nest where ((twigs = '40') or (twigs = '-40'))", "select * from empty", "select zz from plain", "begin", "commit", "rollback",
	}
}

// wantAnswers: behind each number of ticks a command answers what it answers ahead of them, and leads to what it leads to ahead of them, once all is clean.
func wantAnswers(t *testing.T, e api.Engine, s string) {
	t.Helper()
	c := parsed(t, s)
	then, want, _ := engine.Do(e, c)
	clean, _, _ := Clean(then)
	for is := true; is; {
		got, a, f := engine.Do(e, c)
		if f != api.OK || !reflect.DeepEqual(a, want) {
			t.Errorf("%s of %s: it is %+v, %d; want %+v", s, state(e), a, f, want)
		}
		if got, _, _ = Clean(got); !reflect.DeepEqual(copied(got).Tables, copied(clean).Tables) {
			t.Errorf("%s of %s: it is %+v; want %+v", s, state(e), got, clean)
		}
		e, is, _ = Tick(e)
	}
}

func TestL3AnswersAreAsTheyWere(t *testing.T) {
	within := behind(t, shapes(t), "begin", "delete from bird where (legs = '2')", "alter table nest add eggs int default 4")
	for _, e := range []api.Engine{shapes(t), within, {}} {
		for _, s := range asked() {
			wantAnswers(t, e, s)
		}
	}
}

// full: a table of as many deltas as there may be, with some rows ahead of them, and an index.
func full(t *testing.T, rows int) api.Engine {
	t.Helper()
	e := behind(t, api.Engine{}, "create table t (a int)", "create index i on t (a)")
	for range rows {
		e = behind(t, e, "insert into t values (1)")
	}
	for range api.MaxDeltas / 2 {
		e = behind(t, e, "alter table t retype a text", "alter table t retype a int")
	}
	return e
}

// A command that had ErrMany, for there were too many deltas, has none behind the tick by which they go, or one that is named behind it; just that one.
func TestL3ErrMany(t *testing.T) {
	for _, c := range []struct {
		s    string
		want api.Errno
	}{
		{"alter table t add z int default 1", api.OK},
		{"alter table t add z int default 'x'", api.ErrKind},
		{"alter table t add a int default 1", api.ErrTwice},
		{"alter table t add a int default 'x'", api.ErrTwice},
		{"alter table t retype a bool", api.OK},
		{"alter table t drop a", api.ErrState},
	} {
		for _, rows := range []int{0, 3, 7} {
			e := full(t, rows)
			for {
				want := api.ErrMany
				if len(e.Tables[0].Deltas) == 0 {
					want = c.want
				}
				if _, a, f := engine.Do(e, parsed(t, c.s)); f != api.OK || a.Errno != want {
					t.Errorf("%s of %s: it is %+v, %d; want %d", c.s, state(e), a, f, want)
				}
				next, is := ticked(t, e)
				if !is {
					break
				}
				e = next
			}
			if len(e.Tables[0].Deltas) > 0 {
				t.Errorf("it is %s", state(e))
			}
		}
	}
	// What is named ahead of it stays.
	wantAnswers(t, full(t, 4), "alter table t drop zz")
	wantAnswers(t, full(t, 4), "alter table t retype zz int")
	wantAnswers(t, full(t, 4), "alter table zz add a int default 'x'")
}

// ErrMany of all else stays.
func TestL3ErrManyThatStays(t *testing.T) {
	e := behind(t, api.Engine{}, "create table t (a int)", "create table u (a int, b int, c int, d int)", "create table v (a int)", "create table w (a int)", "alter table t retype a text",
		"create index i on t (a)", "create index j on u (a)", "create index k on u (b)", "create index l on v (a)", "alter table u add e int default 3")
	for range api.MaxRows {
		e = behind(t, e, "insert into t values ('x')")
	}
	e = behind(t, e, "alter table t retype a int")
	for _, s := range []string{"create table x (a int)", "create index m on u (c)", "insert into t values (1)", "alter table u add f int default 3"} {
		wantAnswers(t, e, s)
		if _, a, _ := engine.Do(e, parsed(t, s)); a.Errno != api.ErrMany {
			t.Errorf("%s: it is %+v", s, a)
		}
	}
}

// As much as there may be to do: in each table a delta ahead of all rows, and all indexes on a table of all rows.
func TestL3AtMostAHundredTicks(t *testing.T) {
	e := behind(t, api.Engine{}, "create table t (a int)", "create table u (a int)", "create table v (a int)", "create table w (a int)")
	for _, name := range []string{"t", "u", "v", "w"} {
		for k := range api.MaxRows {
			e = behind(t, e, fmt.Sprintf("insert into %s values (%d)", name, k%7))
		}
		e = behind(t, e, "alter table "+name+" retype a text", "alter table "+name+" add b bool default true")
	}
	for i, name := range []string{"i", "j", "k", "l"} {
		x := behind(t, e, "create index "+name+" on "+[]string{"t", "u", "v", "w"}[i]+" (a)")
		y := behind(t, e, "create index "+name+" on w (b)")
		if _, many := cleaned(t, y); many != 40+4+10*(i+1) {
			t.Errorf("they are %d", many)
		}
		e = x
	}
	last, many := cleaned(t, behind(t, e, "begin"))
	if many > 100 || many != 40+4+40 {
		t.Errorf("they are %d", many)
	}
	for _, x := range last.Tables {
		if len(x.Deltas) > 0 || x.Indexes[0].Built != x.Next || slices.ContainsFunc(x.Rows, func(r api.Stored) bool { return r.Version != 0 }) {
			t.Errorf("it is %+v", x)
		}
	}
	if _, n, f := Clean(e); n != many || f != api.OK {
		t.Errorf("they are %d, %d", n, f)
	}
}
