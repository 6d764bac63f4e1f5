package plan

import (
	"fmt"
	"slices"
	"strings"
	"testing"

	"overhaul/api"
	"overhaul/command"
	"overhaul/engine"
	"overhaul/index"
	"overhaul/value"
)

func parsed(t *testing.T, s string) api.Cmd {
	t.Helper()
	c, at, e := command.Parse(s)
	if e != api.OK {
		t.Fatalf("%q: %d at %d", s, e, at)
	}
	return c
}

// behind commands of which none has an error.
func behind(t *testing.T, e api.Engine, l ...string) api.Engine {
	t.Helper()
	for _, s := range l {
		got, a, f := engine.Do(e, parsed(t, s))
		if f != api.OK || a.Errno != api.OK {
			t.Fatalf("%s: %+v, %d", s, a, f)
		}
		e = got
	}
	return e
}

// built: an engine in which all indexes with these names are done.
func built(t *testing.T, e api.Engine, names ...string) api.Engine {
	t.Helper()
	e.Tables = slices.Clone(e.Tables)
	for i := range e.Tables {
		for k, x := range e.Tables[i].Indexes {
			if slices.Contains(names, x.Name) {
				var f api.Errno
				if e.Tables[i], f = index.Build(e.Tables[i], k, api.MaxRows); f != api.OK {
					t.Fatalf("%s: %d", x.Name, f)
				}
			}
		}
	}
	return e
}

// birds: rows of several versions, and indexes on three columns, two of them on one; none is done. The table ahead has the same columns and no index, the one behind has no row.
func birds(t *testing.T) api.Engine {
	t.Helper()
	return behind(t, api.Engine{},
		"create table fowl (name text, legs int, seen bool)",
		"insert into fowl values ('wren', 2, true)",
		"create table bird (name text, legs int)",
		"insert into bird values ('wren', 2)",
		"insert into bird values ('gone', 2)",
		"insert into bird values ('tit', null)",
		"delete from bird where (name = 'gone')",
		"alter table bird add seen bool default false",
		"insert into bird values ('owl', 3, true)",
		"create index n on bird (name)",
		"create index l on bird (legs)",
		"create index m on bird (legs)",
		"create index s on bird (seen)",
		"insert into bird values ('wren', 3, null)",
		"insert into bird values ('', -7, true)",
		"create table nest (name text, legs int)")
}

var allIndexes = []string{"n", "l", "m", "s"}

func wantPlan(t *testing.T, e api.Engine, s, name, key string) {
	t.Helper()
	if p, f := Explain(e, parsed(t, s)); f != api.OK || p != (api.Plan{Index: name, Key: key}) {
		t.Errorf("%s: it is %q, %d; want %q, %q", s, p, f, name, key)
	}
}

func wantRows(t *testing.T, e api.Engine, s string, want ...int) {
	t.Helper()
	if l, f := Rows(e, parsed(t, s)); f != api.OK || !slices.Equal(l, want) {
		t.Errorf("%s: they are %v, %d; want %v", s, l, f, want)
	}
}

func wantErrors(t *testing.T, e api.Engine, c api.Cmd, want api.Errno) {
	t.Helper()
	p, f := Explain(e, c)
	l, g := Rows(e, c)
	if p != (api.Plan{}) || len(l) > 0 || f != want || g != want {
		t.Errorf("%+v: they are %q, %d, and %v, %d; want %d", c, p, f, l, g, want)
	}
}

// condition, the index and the key by which its rows are looked for when all indexes are done, and the rows.
type condition struct {
	s, index, key string
	rows          []int
}

func conditions() []condition {
	return []condition{
		// either way round, of each kind
		{"(legs = 2)", "l", "11000000002", []int{1}},
		{"(2 = legs)", "l", "11000000002", []int{1}},
		{"(legs = 3)", "l", "11000000003", []int{4, 5}},
		{"(legs = -7)", "l", "10999999993", []int{6}},
		{"(-7 = legs)", "l", "10999999993", []int{6}},
		{"(legs = 0)", "l", "11000000000", nil},
		{"(legs = 999999999)", "l", "11999999999", nil},
		{"(name = 'wren')", "n", "2wren", []int{1, 5}},
		{"('wren' = name)", "n", "2wren", []int{1, 5}},
		{"(name = '')", "n", "2", []int{6}},
		{"(name = 'zzzzzzzzzzzzzzzzzzzz')", "n", "2zzzzzzzzzzzzzzzzzzzz", nil},
		{"(seen = true)", "s", "31", []int{4, 6}},
		{"(false = seen)", "s", "30", []int{1, 3}},
		// nothing is no value to look for
		{"(legs = null)", "", "", nil},
		{"(null = legs)", "", "", nil},
		{"(null = null)", "", "", nil},
		{"(legs is null)", "", "", []int{3}},
		{"((legs = null) and (name = 'tit'))", "n", "2tit", nil},
		// not of a column and a value
		{"(legs = legs)", "", "", []int{1, 4, 5, 6}},
		{"(name = name)", "", "", []int{1, 3, 4, 5, 6}},
		{"(2 = 2)", "", "", []int{1, 3, 4, 5, 6}},
		{"(2 = 3)", "", "", nil},
		{"((legs + 1) = 3)", "", "", []int{1}},
		{"(4 = (1 + legs))", "", "", []int{4, 5}},
		{"(legs = (1 + 1))", "", "", []int{1}},
		{"((1 + 1) = legs)", "", "", []int{1}},
		{"(not seen = true)", "", "", []int{1, 3}},
		{"((legs = 2) = true)", "", "", []int{1}},
		{"(seen = (legs = 3))", "", "", []int{1, 4}},
		{"(legs < 3)", "", "", []int{1, 6}},
		{"(2 < legs)", "", "", []int{4, 5}},
		{"seen", "", "", []int{4, 6}},
		{"true", "", "", []int{1, 3, 4, 5, 6}},
		{"false", "", "", nil},
		{"null", "", "", nil},
		// not a part
		{"not (legs = 2)", "", "", []int{4, 5, 6}},
		{"not not (legs = 2)", "", "", []int{1}},
		{"((legs = 2) or (name = 'owl'))", "", "", []int{1, 4}},
		{"((legs = 2) is null)", "", "", []int{3}},
		{"not ((legs = 2) and (name = 'wren'))", "", "", []int{3, 4, 5, 6}},
		{"(((legs = 2) and true) or (name = 'owl'))", "", "", []int{1, 4}},
		{"(((legs = 2) and (name = 'wren')) = true)", "", "", []int{1}},
		// the first part that is one, the first one's first
		{"((legs = 3) and (name = 'wren'))", "l", "11000000003", []int{5}},
		{"((name = 'wren') and (legs = 3))", "n", "2wren", []int{5}},
		{"((name = 'wren') and (name = 'owl'))", "n", "2wren", nil},
		{"(seen and (true = seen))", "s", "31", []int{4, 6}},
		{"((legs < 9) and ((name = 'owl') and (legs = 3)))", "n", "2owl", []int{4}},
		{"(((legs < 9) and (legs = 3)) and (name = 'owl'))", "l", "11000000003", []int{4}},
		{"(((legs < 9) and (seen is null)) and (name = 'wren'))", "n", "2wren", []int{5}},
		{"((((seen = true) and (legs = 3)) and (name = 'owl')) and (name = ''))", "s", "31", nil},
		{"((name = name) and ((legs = null) and (true and (legs = -7))))", "l", "10999999993", nil},
		{"(((legs = 2) or (legs = 3)) and (seen = true))", "s", "31", []int{4}},
		{"(not (legs = 2) and (name = 'wren'))", "n", "2wren", []int{5}},
		{"((legs < 3) and (2 < legs))", "", "", nil},
		{"(seen and null)", "", "", nil},
		{"((name = 'wren') and null)", "n", "2wren", nil},
	}
}

// commands of all three kinds with a condition.
func commands(where string) []string {
	return []string{
		"select * from bird where " + where,
		"delete from bird where " + where,
		"update bird set legs = (legs + 1) where " + where,
		"select legs from bird where " + where + " order by legs limit 1",
	}
}

func TestK1K2Conditions(t *testing.T) {
	e := built(t, birds(t), allIndexes...)
	for _, c := range conditions() {
		for _, s := range commands(c.s) {
			wantPlan(t, e, s, c.index, c.key)
			wantRows(t, e, s, c.rows...)
		}
	}
}

// Without an index that is done nothing but the way is other.
func TestK1K2WithoutAnIndexThatIsDone(t *testing.T) {
	e := birds(t)
	gone := behind(t, e, "drop index n", "drop index l", "drop index m", "drop index s")
	for _, c := range conditions() {
		for _, s := range commands(c.s) {
			for _, x := range []api.Engine{e, gone} {
				wantPlan(t, x, s, "", "")
				wantRows(t, x, s, c.rows...)
			}
		}
	}
}

// An index that is not done is passed over: the next one on the same column is asked, or else the next part.
func TestK1WhichIndexesAreDone(t *testing.T) {
	const s = "select * from bird where ((legs = 3) and ((name = 'owl') and (seen = true)))"
	const l, n, seen = "11000000003", "2owl", "31"
	for _, c := range []struct{ done, index, key string }{
		{"", "", ""}, {"s", "s", seen}, {"n", "n", n}, {"n s", "n", n}, {"m", "m", l}, {"m s", "m", l}, {"m n", "m", l}, {"l", "l", l}, {"l m", "l", l}, {"l n s", "l", l}, {"n l m s", "l", l},
	} {
		e := built(t, birds(t), strings.Fields(c.done)...)
		wantPlan(t, e, s, c.index, c.key)
		wantRows(t, e, s, 4)
	}
}

// One row too few in it, or a number that it does not reach yet: it is not done.
func TestK1IndexesThatAreNearlyDone(t *testing.T) {
	const s = "delete from bird where (name = 'wren')"
	e := birds(t)
	for _, many := range []int{1, 4, 5} {
		var f api.Errno
		e.Tables[1], f = index.Build(birds(t).Tables[1], 0, many)
		if isDone, _ := index.Done(e.Tables[1], 0); f != api.OK || isDone != (many == 5) {
			t.Fatalf("%d: it is %+v, %d", many, e, f)
		}
		if many == 5 {
			wantPlan(t, e, s, "n", "2wren")
		} else {
			wantPlan(t, e, s, "", "")
		}
		wantRows(t, e, s, 1, 5)
	}
	// All rows are in it; but the last one that was there is gone, ahead of whose number it stands.
	e.Tables[1], _ = index.Build(birds(t).Tables[1], 0, 4)
	e = behind(t, e, "delete from bird where (name = '')")
	wantPlan(t, e, s, "", "")
	wantRows(t, e, s, 1, 5)
	e.Tables[1], _ = index.Build(e.Tables[1], 0, 1)
	wantPlan(t, e, s, "n", "2wren")
	wantRows(t, e, s, 1, 5)
}

// A table without rows has indexes that are done from their beginning on; behind a row each is, or is not, as it was.
func TestK1TablesWithoutRows(t *testing.T) {
	e := behind(t, birds(t), "drop index s", "create index x on nest (legs)")
	wantPlan(t, e, "select * from nest where (legs = 3)", "x", "11000000003")
	wantRows(t, e, "select * from nest where (legs = 3)")
	wantRows(t, e, "select * from nest")
	e = behind(t, e, "insert into nest values (null, 3)")
	wantPlan(t, e, "select * from nest where (legs = 3)", "x", "11000000003")
	wantRows(t, e, "select * from nest where (legs = 3)", 1)
	e = behind(t, e, "alter table nest retype legs text")
	wantPlan(t, e, "select * from nest where (legs = '3')", "", "")
	wantRows(t, e, "select * from nest where (legs = '3')", 1)
	wantPlan(t, built(t, e, "x"), "select * from nest where (legs = '3')", "x", "23")
	wantRows(t, built(t, e, "x"), "select * from nest where (legs = '3')", 1)
}

// The index is one of the command's own table, on the column as it is called and where it stands now.
func TestK1TablesAndColumnsAsTheyAreNow(t *testing.T) {
	e := built(t, birds(t), allIndexes...)
	wantPlan(t, e, "select * from fowl where (legs = 2)", "", "")
	wantRows(t, e, "select * from fowl where (legs = 2)", 1)
	wantPlan(t, e, "select * from nest where (legs = 2)", "", "")
	wantRows(t, e, "select * from nest where (legs = 2)")
	e = behind(t, e, "alter table bird rename legs to feet", "alter table bird drop name", "drop table fowl", "alter table nest rename to fowl", "alter table bird rename to nest")
	wantPlan(t, e, "select * from nest where (feet = 3)", "l", "11000000003")
	wantRows(t, e, "select * from nest where (feet = 3)", 4, 5)
	wantPlan(t, e, "select * from nest where (seen = true)", "s", "31")
	wantPlan(t, e, "select * from fowl where (legs = 3)", "", "")
	e = behind(t, e, "alter table nest add legs int default 3")
	wantPlan(t, e, "select * from nest where (legs = 3)", "", "")
	wantPlan(t, e, "select * from nest where ((legs = 3) and (feet = 3))", "l", "11000000003")
	wantRows(t, e, "select * from nest where ((legs = 3) and (feet = 3))", 4, 5)
}

// Without a condition all rows are meant, and no index.
func TestK1K2All(t *testing.T) {
	e := built(t, birds(t), allIndexes...)
	for _, s := range []string{"select * from bird", "delete from bird", "update bird set legs = 2", "select name from bird order by legs limit 0"} {
		wantPlan(t, e, s, "", "")
		wantRows(t, e, s, 1, 3, 4, 5, 6)
	}
}

// chained conditions: so many parts in all, and the last one of an index.
func chained(ahead string, many int, last string) string {
	return strings.Repeat("("+ahead+" and ", many) + last + strings.Repeat(")", many)
}

// As many parts as there may be.
func TestK1MaxExpr(t *testing.T) {
	e := built(t, birds(t), allIndexes...)
	s := "select * from bird where " + chained("true", 6, "(legs = 3)")
	wantPlan(t, e, s, "l", "11000000003")
	wantRows(t, e, s, 4, 5)
	s = "select * from bird where " + chained("(legs = null)", 3, "(3 = legs)")
	wantPlan(t, e, s, "l", "11000000003")
	wantRows(t, e, s)
	s = "select * from bird where ((((((true and true) and true) and true) and true) and true) and (name = 'tit'))"
	wantPlan(t, e, s, "n", "2tit")
	wantRows(t, e, s, 3)
	s = "select * from bird where ((((((true and true) and true) and true) and true) and true) and (not true and (name = 'tit')))"
	if _, _, f := command.Parse(s); f != api.ErrMany {
		t.Errorf("it is %d", f)
	}
	c := parsed(t, "select * from bird where (legs = 3)")
	for range 7 {
		c.Where = api.Expr{Kind: api.ExprAnd, Args: []api.Expr{{Kind: api.ExprColumn, Name: "seen"}, c.Where}}
	}
	wantErrors(t, e, c, api.ErrMany)
}

// As many rows as there may be, with the greatest numbers; found by an index they rise, too.
func TestK2MaxRows(t *testing.T) {
	e := behind(t, api.Engine{}, "create table t (a int, b int)")
	e.Tables[0].Next = 1000000 - api.MaxRows
	e = behind(t, e, "create index i on t (a)")
	var all, odd []int
	for k := range api.MaxRows {
		e = behind(t, e, fmt.Sprintf("insert into t values (%d, %d)", k%2, 100-k))
		all = append(all, 1000000-api.MaxRows+k)
		if k%2 == 1 {
			odd = append(odd, all[k])
		}
	}
	for _, x := range []api.Engine{e, built(t, e, "i")} {
		wantRows(t, x, "select * from t order by b", all...)
		wantRows(t, x, "select * from t where (a = 1) order by b limit 3", odd...)
		wantRows(t, x, "select * from t where ((a = 1) and (98 < b))", odd[0])
		wantRows(t, x, "select * from t where ((a = 1) and (b < 72))", odd[len(odd)-1])
	}
	wantPlan(t, e, "select * from t where (a = 1)", "", "")
	wantPlan(t, built(t, e, "i"), "select * from t where (a = 1)", "i", "11000000001")
}

// Within a transaction tables as they are there are meant.
func TestK1K2Within(t *testing.T) {
	e := built(t, birds(t), "l")
	e = behind(t, e, "begin", "delete from bird where (name = 'owl')", "drop index m")
	wantPlan(t, e, "select * from bird where (legs = 3)", "l", "11000000003")
	wantRows(t, e, "select * from bird where (legs = 3)", 5)
	e = behind(t, e, "drop index l")
	wantPlan(t, e, "select * from bird where (legs = 3)", "", "")
	wantRows(t, e, "select * from bird where (legs = 3)", 5)
	e = behind(t, e, "rollback")
	wantPlan(t, e, "select * from bird where (legs = 3)", "l", "11000000003")
	wantRows(t, e, "select * from bird where (legs = 3)", 4, 5)
}

func TestK1KeyIsThatOfChapter2(t *testing.T) {
	e := built(t, birds(t), allIndexes...)
	for _, v := range []api.Value{{Kind: api.TypeInt}, {Kind: api.TypeInt, N: -api.MaxInt}, {Kind: api.TypeInt, N: api.MaxInt}, {Kind: api.TypeInt, N: 31}} {
		c := parsed(t, "delete from bird where (legs = 1)")
		c.Where.Args[1].Value = v
		want, _ := value.Key(v)
		if p, f := Explain(e, c); f != api.OK || p.Index != "l" || p.Key != want {
			t.Errorf("%v: it is %q, %d; want %q", v, p, f, want)
		}
	}
}
