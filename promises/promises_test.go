// Package promises: tests of the promises for all chapters (P1 to P4), of all calls.
package promises

import (
	"math"
	"math/rand"
	"reflect"
	"strings"
	"testing"

	"overhaul/api"
	"overhaul/command"
	"overhaul/engine"
	"overhaul/index"
	"overhaul/plan"
	"overhaul/table"
	"overhaul/tick"
)

// texts of commands of all kinds, one behind the other; some have errors.
func texts() []string {
	return []string{
		"create table bird (name text, legs int)",
		"insert into bird values ('wren', 2)",
		"insert into bird values ('tit', null)",
		"alter table bird add seen bool default false",
		"create index l on bird (legs)",
		"create index s on bird (seen)",
		"insert into bird values ('owl', 3, true)",
		"update bird set legs = (legs + 1) where ((legs < 3) or seen)",
		"select * from bird where not seen order by legs limit 1",
		"select name, legs, legs from bird",
		"begin",
		"create table nest (a int, b int, c int, d int, e int)",
		"insert into nest values (1, 2, 3, 4, 5)",
		"create index n on nest (e)",
		"delete from bird where (name = 'tit')",
		"alter table bird retype legs text",
		"alter table bird rename name to id",
		"alter table bird rename to fowl",
		"rollback",
		"alter table bird drop name",
		"drop index s",
		"begin",
		"insert into bird values (7, null)",
		"commit",
		"delete from bird",
		"drop table bird",
		"create table bird (a int, a int)",
		"select zz from bird where legs",
	}
}

func parsed(t *testing.T, s string) api.Cmd {
	t.Helper()
	c, _, e := command.Parse(s)
	if e != api.OK {
		t.Fatalf("%s: %d", s, e)
	}
	return c
}

// engines behind each of these texts, and with one of their indexes built some rows further.
func engines(t *testing.T) []api.Engine {
	t.Helper()
	l := []api.Engine{{}}
	e := l[0]
	for _, s := range texts() {
		e, _, _ = engine.Do(e, parsed(t, s))
		l = append(l, e)
		for i, x := range e.Tables {
			for k := range x.Indexes {
				built := deep(reflect.ValueOf(e), 0).Interface().(api.Engine)
				built.Tables[i], _ = index.Build(x, k, 1+i+k)
				l = append(l, built)
			}
		}
	}
	return l
}

func callsOfTables(x api.Table) []call {
	var l []call
	for k := -1; k <= len(x.Indexes); k++ {
		for _, many := range []int{0, 1, 2, api.MaxRows} {
			l = append(l, call{"Build", index.Build, []any{x, k, many}})
		}
		l = append(l, call{"Done", index.Done, []any{x, k}})
		for _, v := range []api.Value{{}, {Kind: api.TypeInt, N: 3}, {Kind: api.TypeBool}, {Kind: api.TypeText, S: "3"}, {Kind: 4}} {
			l = append(l, call{"Find", index.Find, []any{x, k, v}})
		}
	}
	return l
}

func TestP1P2P3OfIndexes(t *testing.T) {
	for _, e := range engines(t) {
		for _, x := range append(e.Tables, e.Saved...) {
			for _, c := range callsOfTables(x) {
				wantAll(t, c)
			}
		}
	}
}

func TestP1P2P3OfEngines(t *testing.T) {
	for _, e := range engines(t) {
		wantAll(t, call{"Check", engine.Check, []any{e}})
		for _, s := range texts() {
			wantAll(t, call{s, engine.Do, []any{e, parsed(t, s)}})
		}
		wantAll(t, call{"Do", engine.Do, []any{e, api.Cmd{}}})
	}
}

func TestP1P2P3OfWays(t *testing.T) {
	for _, e := range engines(t) {
		for _, s := range append(texts(), "select * from bird where (legs = 3)", "delete from bird where ((name < 'x') and (false = seen))", "update bird set legs = 1 where (legs = 2)") {
			wantAll(t, call{s, plan.Explain, []any{e, parsed(t, s)}})
			wantAll(t, call{s, plan.Rows, []any{e, parsed(t, s)}})
		}
		wantAll(t, call{"Explain", plan.Explain, []any{e, api.Cmd{}}})
		wantAll(t, call{"Rows", plan.Rows, []any{e, api.Cmd{}}})
	}
}

func TestP1P2P3OfTheBackground(t *testing.T) {
	for _, e := range engines(t) {
		wantAll(t, call{"Clean", tick.Clean, []any{e}})
		for is := true; is; {
			wantAll(t, call{"Tick", tick.Tick, []any{e}})
			e, is, _ = tick.Tick(e)
		}
		e.Tables = make([]api.Table, 1)
		wantAll(t, call{"Tick", tick.Tick, []any{e}})
		wantAll(t, call{"Clean", tick.Clean, []any{e}})
	}
}

// junk: something somewhere in a thing becomes something else.
func junk(r *rand.Rand, v reflect.Value) {
	switch v.Kind() {
	case reflect.Int:
		l := []int{math.MinInt, -1, 0, 1, 2, 3, 4, 5, 6, 15, 16, 17, 31, 999999, 1000000, 1000001, math.MaxInt}
		v.SetInt(int64(l[r.Intn(len(l))]))
	case reflect.String:
		l := []string{"", "a", "b", "bird", "legs", "to", "it's", "\x00", "\x01\x00", "\x02\x00\x01", "\xff\xff", "11000000001", strings.Repeat("a", 30)}
		v.SetString(l[r.Intn(len(l))])
	case reflect.Bool:
		v.SetBool(!v.Bool())
	case reflect.Struct:
		junk(r, v.Field(r.Intn(v.NumField())))
	case reflect.Slice:
		junkList(r, v)
	}
}

func junkList(r *rand.Rand, v reflect.Value) {
	if v.Len() == 0 || r.Intn(8) == 0 {
		v.Set(reflect.Append(v, reflect.Zero(v.Type().Elem())))
		return
	}
	at := r.Intn(v.Len())
	switch r.Intn(12) {
	case 0:
		v.Set(v.Slice(0, at))
	case 1:
		v.Set(reflect.Append(v, deep(v.Index(at), 0)))
	case 2:
		for range 6 {
			v.Set(reflect.Append(v, deep(v.Index(at), 0)))
		}
	default:
		junk(r, v.Index(at))
	}
}

// junked copy of a thing.
func junked[T any](r *rand.Rand, x T) T {
	v := deep(reflect.ValueOf(x), 0)
	for range 1 + r.Intn(3) {
		junk(r, v)
	}
	return v.Interface().(T)
}

// Every call ends, whatever it is handed; what is wrong with a table tells first, whichever call it is.
func TestP1JunkOfIndexes(t *testing.T) {
	r := rand.New(rand.NewSource(1))
	seen := map[api.Errno]int{}
	for _, e := range engines(t) {
		for _, x := range append(e.Tables, e.Saved...) {
			for range 100 {
				x := junked(r, x)
				want := table.Check(x)
				seen[want]++
				for k := -1; k <= len(x.Indexes); k++ {
					got, e := index.Build(x, k, r.Intn(33)-1)
					is, f := index.Done(x, k)
					l, g := index.Find(x, k, junked(r, api.Value{}))
					if want != api.OK && (e != want || f != want || g != want) {
						t.Fatalf("%+v: they are %d, %d, %d; want %d", x, e, f, g, want)
					}
					if e != api.OK && !isEmpty(reflect.ValueOf(got)) || f != api.OK && is || g != api.OK && len(l) > 0 {
						t.Fatalf("it is %+v, %d; %v, %d; %v, %d", got, e, is, f, l, g)
					}
					if e == api.OK && table.Check(got) != api.OK {
						t.Fatalf("it is %+v", got)
					}
				}
			}
		}
	}
	if len(seen) < 8 || seen[api.OK] < 100 {
		t.Errorf("too little was tried: %v", seen)
	}
}

// What is wrong with the engine tells first, then what is wrong with the command; what comes of right ones is right.
func TestP1JunkOfEngines(t *testing.T) {
	r := rand.New(rand.NewSource(2))
	seen := map[api.Errno]int{}
	for _, e := range engines(t) {
		for _, s := range texts() {
			for range 10 {
				e, c := e, parsed(t, s)
				if r.Intn(2) == 0 {
					e = junked(r, e)
				}
				if r.Intn(2) == 0 {
					c = junked(r, c)
				}
				want := engine.Check(e)
				if want == api.OK {
					want = command.Check(c)
				}
				got, a, f := engine.Do(e, c)
				seen[f]++
				if f != want || f != api.OK && (!isEmpty(reflect.ValueOf(got)) || !isEmpty(reflect.ValueOf(a))) {
					t.Fatalf("%+v of %+v: it is %+v, %+v, %d; want %d", c, e, got, a, f, want)
				}
				if f == api.OK && engine.Check(got) != api.OK {
					t.Fatalf("%+v of %+v: it is %+v", c, e, got)
				}
				if a.Errno != api.OK && (!same(reflect.ValueOf(got), reflect.ValueOf(e)) || len(a.Rows) > 0 || a.Many != 0) {
					t.Fatalf("%+v of %+v: it is %+v, %+v", c, e, got, a)
				}
			}
		}
	}
	if len(seen) < 8 || seen[api.OK] < 1000 {
		t.Errorf("too little was tried: %v", seen)
	}
}

// What is wrong with the engine tells first, then what is wrong with the command, then of which kind it is, then its answer.
func TestP1JunkOfWays(t *testing.T) {
	r := rand.New(rand.NewSource(3))
	seen := map[api.Errno]int{}
	rows := 0
	for _, e := range engines(t) {
		for _, s := range append(texts(), "select * from bird where (legs = 3)", "delete from bird where ((name < 'x') and (false = seen))") {
			for range 10 {
				e, c := e, parsed(t, s)
				if r.Intn(3) == 0 {
					e = junked(r, e)
				}
				if r.Intn(3) > 0 {
					c = junked(r, c)
				}
				_, a, want := engine.Do(e, c)
				if want == api.OK && c.Kind != api.CmdDelete && c.Kind != api.CmdUpdate && c.Kind != api.CmdSelect {
					want = api.ErrKind
				}
				if want == api.OK {
					want = a.Errno
				}
				p, f := plan.Explain(e, c)
				l, g := plan.Rows(e, c)
				seen[f]++
				rows += len(l)
				if f != want || g != want || want != api.OK && (p != (api.Plan{}) || len(l) > 0) {
					t.Fatalf("%+v of %+v: they are %q, %d, %v, %d; want %d", c, e, p, f, l, g, want)
				}
			}
		}
	}
	if len(seen) < 8 || seen[api.OK] < 300 || rows < 300 {
		t.Errorf("too little was tried: %v, %d", seen, rows)
	}
}

// What is wrong with the engine is all that is told; of one that may be so, however it came about, ticks have an end, and what comes is right, and clean.
func TestP1JunkOfTheBackground(t *testing.T) {
	r := rand.New(rand.NewSource(4))
	seen := map[api.Errno]int{}
	for _, e := range engines(t) {
		for range 100 {
			e := junked(r, e)
			want := engine.Check(e)
			seen[want]++
			got, is, f := tick.Tick(e)
			clean, many, g := tick.Clean(e)
			if f != want || g != want || want != api.OK && (is || many > 0 || !isEmpty(reflect.ValueOf(got)) || !isEmpty(reflect.ValueOf(clean))) {
				t.Fatalf("of %+v it is %+v, %v, %d, and %+v, %d, %d; want %d", e, got, is, f, clean, many, g, want)
			}
			if engine.Check(got) != api.OK || engine.Check(clean) != api.OK || many > 100 || is != (many > 0) {
				t.Fatalf("of %+v it is %+v, %v, and %+v, %d", e, got, is, clean, many)
			}
			if again, is, _ := tick.Tick(clean); is || !same(reflect.ValueOf(again), reflect.ValueOf(clean)) {
				t.Fatalf("it is %+v, %v", again, is)
			}
		}
	}
	if len(seen) < 8 || seen[api.OK] < 100 {
		t.Errorf("too little was tried: %v", seen)
	}
}

// nested: so many parts, each in the one ahead.
func nested(depth int) api.Expr {
	e := api.Expr{Kind: api.ExprValue}
	for range depth {
		e = api.Expr{Kind: api.ExprNot, Args: []api.Expr{e}}
	}
	return e
}

// Much that is handed in comes to its end, too, and soon.
func TestP4Much(t *testing.T) {
	right := engines(t)[2]
	rows := right
	rows.Tables = []api.Table{rows.Tables[0]}
	rows.Tables[0].Rows = make([]api.Stored, 1000000)
	long := right
	long.Tables = []api.Table{long.Tables[0]}
	long.Tables[0].Name = strings.Repeat("a", 10000000)
	entries := right
	entries.Tables = []api.Table{entries.Tables[0]}
	entries.Tables[0].Indexes = []api.Index{{Name: "i", Built: 1, Entries: make([]api.Entry, 1000000)}}
	bytes := right
	bytes.Tables = []api.Table{bytes.Tables[0]}
	bytes.Tables[0].Rows = []api.Stored{{Number: 1, Bytes: strings.Repeat("\x00", 10000000)}}
	for i, c := range []struct {
		e    api.Engine
		c    api.Cmd
		want api.Errno
	}{
		{api.Engine{Tables: make([]api.Table, 100000)}, api.Cmd{}, api.ErrMany},
		{api.Engine{Saved: make([]api.Table, 100000)}, api.Cmd{}, api.ErrMany},
		{rows, api.Cmd{}, api.ErrMany},
		{long, api.Cmd{}, api.ErrForm},
		{entries, api.Cmd{}, api.ErrState},
		{bytes, api.Cmd{}, api.ErrForm},
		{right, api.Cmd{Kind: api.CmdDelete, Name: "bird", Where: nested(60000)}, api.ErrMany},
		{right, api.Cmd{Kind: api.CmdUpdate, Name: "bird", Column: "legs", Expr: nested(60000), All: true}, api.ErrMany},
		{right, api.Cmd{Kind: api.CmdInsert, Name: "bird", Values: make([]api.Value, 1000000)}, api.ErrMany},
		{right, api.Cmd{Kind: api.CmdSelect, Name: "bird", Fields: make([]string, 1000000)}, api.ErrMany},
		{right, api.Cmd{Kind: api.CmdDrop, Name: strings.Repeat("a", 10000000)}, api.ErrForm},
	} {
		got, a, f := engine.Do(c.e, c.c)
		if f != c.want || !isEmpty(reflect.ValueOf(got)) || !isEmpty(reflect.ValueOf(a)) {
			t.Errorf("%d: it is %d; want %d", i, f, c.want)
		}
		p, f := plan.Explain(c.e, c.c)
		l, g := plan.Rows(c.e, c.c)
		if f != c.want || g != c.want || p != (api.Plan{}) || len(l) > 0 {
			t.Errorf("%d: they are %d, %d; want %d", i, f, g, c.want)
		}
		if engine.Check(c.e) == api.OK {
			continue
		}
		_, _, f = tick.Tick(c.e)
		_, _, g = tick.Clean(c.e)
		if f != c.want || g != c.want {
			t.Errorf("%d: they are %d, %d; want %d", i, f, g, c.want)
		}
	}
}
