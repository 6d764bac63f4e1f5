package session

import (
	"reflect"
	"slices"
	"strconv"
	"strings"
	"testing"

	"overhaul/api"
	"overhaul/command"
	"overhaul/engine"
	"overhaul/tick"
)

// line: a text, and what is answered to it, in words.
type line struct{ text, want string }

func valueInWords(v api.Value) string {
	switch v.Kind {
	case 0:
		return "null"
	case api.TypeInt:
		return strconv.Itoa(v.N)
	case api.TypeText:
		return "'" + v.S + "'"
	}
	return []string{"false", "true"}[v.N]
}

func inWords(a api.Answer) string {
	var rows []string
	for _, row := range a.Rows {
		var l []string
		for _, v := range row {
			l = append(l, valueInWords(v))
		}
		rows = append(rows, strings.Join(l, ", "))
	}
	var all []string
	if a.Errno != api.OK {
		all = append(all, "error "+strconv.Itoa(int(a.Errno)))
	}
	if len(rows) > 0 {
		all = append(all, strings.Join(rows, "; "))
	}
	if a.Many != 0 {
		all = append(all, strconv.Itoa(a.Many))
	}
	return strings.Join(all, " and ")
}

func allInWords(l []api.Answer) []string {
	var all []string
	for _, a := range l {
		all = append(all, inWords(a))
	}
	return all
}

func textsOf(l []line) []string {
	var all []string
	for _, x := range l {
		all = append(all, x.text)
	}
	return all
}

func wantAnswers(t *testing.T, got []api.Answer, l []line) {
	t.Helper()
	if len(got) != len(l) {
		t.Fatalf("%d answers; want %d", len(got), len(l))
	}
	for i, x := range l {
		if s := inWords(got[i]); s != x.want {
			t.Errorf("%d: %s: it is %q; want %q", i, x.text, s, x.want)
		}
	}
}

func ran(t *testing.T, e api.Engine, l ...line) api.Engine {
	t.Helper()
	got, answers, f := Run(e, textsOf(l))
	if f != api.OK {
		t.Fatalf("it is %d", f)
	}
	wantAnswers(t, answers, l)
	return got
}

// one by one: what comes of texts by the calls of other chapters alone.
func oneByOne(t *testing.T, e api.Engine, l []string) (api.Engine, []api.Answer) {
	t.Helper()
	var answers []api.Answer
	for _, s := range l {
		var a api.Answer
		var g api.Errno
		if s == "tick" {
			var is bool
			if e, is, g = tick.Tick(e); is {
				a.Many = 1
			}
		} else if c, _, f := command.Parse(s); f != api.OK {
			a.Errno = f
		} else {
			e, a, g = engine.Do(e, c)
		}
		if g != api.OK {
			t.Fatalf("%s: it is %d", s, g)
		}
		answers = append(answers, a)
	}
	return e, answers
}

// same, but for whether lists without elements are nil.
func same(a, b any) bool { return sameValues(reflect.ValueOf(a), reflect.ValueOf(b)) }

func sameValues(a, b reflect.Value) bool {
	switch a.Kind() {
	case reflect.Slice:
		for i := range min(a.Len(), b.Len()) {
			if !sameValues(a.Index(i), b.Index(i)) {
				return false
			}
		}
		return a.Len() == b.Len()
	case reflect.Struct:
		for i := range a.NumField() {
			if !sameValues(a.Field(i), b.Field(i)) {
				return false
			}
		}
		return true
	}
	return a.Equal(b)
}

func TestO1TheExample(t *testing.T) {
	ran(t, api.Engine{},
		line{"create table bird (name text, legs int)", ""},
		line{"insert into bird values ('wren', 2)", ""},
		line{"alter table bird add seen bool default false", ""},
		line{"insert into bird values ('tit', null, true)", ""},
		line{"alter table bird retype legs text", ""},
		line{"select * from bird where not seen", "'wren', '2', false"},
		line{"tick", "1"},
		line{"tick", "1"},
		line{"tick", ""},
		line{"select * from bird where not seen", "'wren', '2', false"})
}

// Whatever a text is, those behind it are run.
func TestO1TextByText(t *testing.T) {
	e := ran(t, api.Engine{},
		line{"tick", ""},
		line{"", "error 1"},
		line{"create table t (a int)", ""},
		line{"create table t (a int)", "error 6"},
		line{"create table t (a int", "error 1"},
		line{"insert into t values (1)", ""},
		line{"insert into t values ('x')", "error 7"},
		line{"insert into t values (01)", "error 1"},
		line{"insert into t values (1000000000)", "error 2"},
		line{"insert into t values (2); commit", "error 1"},
		line{"insert  into t\nvalues\t(-2)", ""},
		line{"select * from u", "error 5"},
		line{"select * from t", "1; -2"},
		line{"commit", "error 4"},
		line{"update t set a = (a + 1) where (a < 0)", "1"},
		line{"delete from t where (a = 9)", ""},
		line{"select * from t order by a limit 1", "-1"},
		line{"\x00", "error 1"},
		line{"Tick", "error 1"},
		line{"delete from t", "2"},
		line{"drop table t", ""})
	if !same(e, api.Engine{}) {
		t.Errorf("it is %+v", e)
	}
}

// Just these bytes are a tick; one that does nothing is false.
func TestO1Ticks(t *testing.T) {
	e := ran(t, api.Engine{},
		line{"create table t (a int)", ""},
		line{"insert into t values (1)", ""},
		line{"insert into t values (2)", ""},
		line{"insert into t values (3)", ""},
		line{"insert into t values (4)", ""},
		line{"tick", ""},
		line{"alter table t retype a text", ""},
		line{"create index i on t (a)", ""})
	var wrong []line
	for _, s := range []string{" tick", "tick ", "tick\n", "tick;", "ticks", "TICK", "tic", "tick tick", "'tick'", "tick\x00"} {
		wrong = append(wrong, line{s, "error 1"})
	}
	if got := ran(t, e, wrong...); !same(got, e) {
		t.Errorf("it is %+v; want %+v", got, e)
	}
	want := e
	for _, x := range []line{{"tick", "1"}, {"tick", "1"}, {"tick", "1"}, {"tick", "1"}, {"tick", "1"}, {"tick", ""}, {"tick", ""}} {
		e = ran(t, e, x)
		if want, _, _ = tick.Tick(want); !same(e, want) {
			t.Errorf("it is %+v; want %+v", e, want)
		}
	}
}

// A limit that was reached is lifted by a tick that takes the deltas away.
func TestO1ATickLiftsALimit(t *testing.T) {
	var l []line
	l = append(l, line{"create table t (a int)", ""}, line{"insert into t values (1)", ""})
	for range api.MaxDeltas / 2 {
		l = append(l, line{"alter table t retype a text", ""}, line{"alter table t retype a int", ""})
	}
	l = append(l, line{"alter table t retype a bool", "error 2"}, line{"tick", "1"}, line{"alter table t retype a bool", "error 2"}, line{"tick", "1"}, line{"alter table t retype a bool", ""}, line{"tick", "1"})
	ran(t, api.Engine{}, l...)
}

// On an engine that is handed in, in a transaction or not, clean or not, texts are run as one by one.
func TestO1FromAnyEngine(t *testing.T) {
	l := []string{
		"create table t (a int, b text)", "insert into t values (1, '1')", "insert into t values (2, null)", "alter table t retype a text", "create index i on t (b)",
		"begin", "tick", "insert into t values ('3', '3')", "begin", "tick", "drop table u", "create table u (a bool)", "alter table t drop a", "rollback", "tick",
		"select * from t", "x", "begin", "update t set b = a", "commit", "tick", "tick", "rollback", "select b from t order by b", "begin", "delete from t",
	}
	for from := range l {
		e, _ := oneByOne(t, api.Engine{}, l[:from])
		for to := from; to <= len(l); to++ {
			got, answers, f := Run(e, l[from:to])
			want, wanted := oneByOne(t, e, l[from:to])
			if f != api.OK || !same(got, want) || !same(answers, wanted) {
				t.Fatalf("%d to %d: it is %+v, %q, %d; want %+v, %q", from, to, got, allInWords(answers), f, want, allInWords(wanted))
			}
		}
	}
}

func TestO1Transactions(t *testing.T) {
	ran(t, api.Engine{},
		line{"create table t (a int)", ""},
		line{"begin", ""},
		line{"insert into t values (1)", ""},
		line{"begin", "error 4"},
		line{"select * from t", "1"},
		line{"rollback", ""},
		line{"select * from t", ""},
		line{"rollback", "error 4"},
		line{"begin", ""},
		line{"insert into t values (2)", ""},
		line{"commit", ""},
		line{"select * from t", "2"},
		line{"commit", "error 4"})
}

// What is wrong with the engine tells ahead of too many texts; nothing else comes then.
func TestO1Errors(t *testing.T) {
	full := make([]string, api.MaxCmds)
	for _, c := range []struct {
		e    api.Engine
		l    []string
		want api.Errno
	}{
		{api.Engine{}, nil, api.OK},
		{api.Engine{}, full, api.OK},
		{api.Engine{}, append(full, ""), api.ErrMany},
		{api.Engine{}, make([]string, 1000), api.ErrMany},
		{api.Engine{Tables: make([]api.Table, 5)}, nil, api.ErrMany},
		{api.Engine{Tables: []api.Table{{}}}, nil, api.ErrForm},
		{api.Engine{Tables: []api.Table{{}}}, full, api.ErrForm},
		{api.Engine{Tables: []api.Table{{}}}, append(full, ""), api.ErrForm},
		{api.Engine{Saved: []api.Table{{Name: "t", Columns: []api.Column{{Name: "a", Type: 1}}, Next: 1}}}, append(full, ""), api.ErrState},
	} {
		got, answers, f := Run(c.e, c.l)
		if f != c.want || c.want != api.OK && (!same(got, api.Engine{}) || len(answers) > 0) || c.want == api.OK && len(answers) != len(c.l) {
			t.Errorf("of %+v, %d texts: it is %+v, %d answers, %d; want %d", c.e, len(c.l), got, len(answers), f, c.want)
		}
		if c.want == api.OK && slices.ContainsFunc(answers, func(a api.Answer) bool { return !same(a, api.Answer{Errno: api.ErrForm}) }) {
			t.Errorf("they are %q", allInWords(answers))
		}
	}
}

// A text that is too long for any command has its error in the answer.
func TestO1LongTexts(t *testing.T) {
	pad := func(s string, n int) string { return s + strings.Repeat(" ", n-len(s)) }
	ran(t, api.Engine{},
		line{pad("create table t (a int)", api.MaxText), ""},
		line{pad("insert into t values (1)", api.MaxText+1), "error 2"},
		line{"insert into t values ('" + strings.Repeat("x", 21) + "')", "error 2"},
		line{pad("select * from t", api.MaxText), ""},
		line{pad("tick", 5), "error 1"})
}
