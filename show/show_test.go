package show

import (
	"math/rand"
	"slices"
	"strings"
	"testing"

	"overhaul/api"
	"overhaul/command"
)

func number(n int) api.Value    { return api.Value{Kind: api.TypeInt, N: n} }
func quoted(s string) api.Value { return api.Value{Kind: api.TypeText, S: s} }
func truth(n int) api.Value     { return api.Value{Kind: api.TypeBool, N: n} }

func val(v api.Value) api.Expr               { return api.Expr{Kind: api.ExprValue, Value: v} }
func col(name string) api.Expr               { return api.Expr{Kind: api.ExprColumn, Name: name} }
func of(kind int, args ...api.Expr) api.Expr { return api.Expr{Kind: kind, Args: args} }

func nots(many int, e api.Expr) api.Expr {
	for range many {
		e = of(api.ExprNot, e)
	}
	return e
}

func wantShow(t *testing.T, c api.Cmd, want string, wantErrno api.Errno) {
	t.Helper()
	s, e := Show(c)
	if s != want || e != wantErrno {
		t.Errorf("Show(%+v) = %q, %d; want %q, %d", c, s, e, want, wantErrno)
	}
}

func TestD1EachKind(t *testing.T) {
	for s, c := range map[string]api.Cmd{
		"create table t (a int)":                      {Kind: api.CmdCreate, Name: "t", Columns: []api.Column{{Name: "a", Type: api.TypeInt}}},
		"create table t (a int, b text, c bool)":      {Kind: api.CmdCreate, Name: "t", Columns: []api.Column{{Name: "a", Type: api.TypeInt}, {Name: "b", Type: api.TypeText}, {Name: "c", Type: api.TypeBool}}},
		"drop table t":                                {Kind: api.CmdDrop, Name: "t"},
		"alter table t add a int default -7":          {Kind: api.CmdAdd, Name: "t", Column: "a", Type: api.TypeInt, Value: number(-7)},
		"alter table t add a bool default 'x'":        {Kind: api.CmdAdd, Name: "t", Column: "a", Type: api.TypeBool, Value: quoted("x")},
		"alter table t drop a":                        {Kind: api.CmdTake, Name: "t", Column: "a"},
		"alter table t rename a to b":                 {Kind: api.CmdColumn, Name: "t", Column: "a", Other: "b"},
		"alter table t retype a text":                 {Kind: api.CmdRetype, Name: "t", Column: "a", Type: api.TypeText},
		"alter table t rename to u":                   {Kind: api.CmdTable, Name: "t", Other: "u"},
		"create index i on t (a)":                     {Kind: api.CmdIndex, Name: "i", Other: "t", Column: "a"},
		"drop index i":                                {Kind: api.CmdUnindex, Name: "i"},
		"insert into t values (0)":                    {Kind: api.CmdInsert, Name: "t", Values: []api.Value{number(0)}},
		"insert into t values ('', -1, null, true)":   {Kind: api.CmdInsert, Name: "t", Values: []api.Value{quoted(""), number(-1), {}, truth(1)}},
		"delete from t":                               {Kind: api.CmdDelete, Name: "t", All: true},
		"delete from t where false":                   {Kind: api.CmdDelete, Name: "t", Where: val(truth(0))},
		"update t set a = (a + 1)":                    {Kind: api.CmdUpdate, Name: "t", Column: "a", Expr: of(api.ExprAdd, col("a"), val(number(1))), All: true},
		"update t set a = b where c":                  {Kind: api.CmdUpdate, Name: "t", Column: "a", Expr: col("b"), Where: col("c")},
		"select * from t":                             {Kind: api.CmdSelect, Name: "t", All: true, Limit: -1},
		"select a, b, a from t limit 0":               {Kind: api.CmdSelect, Name: "t", Fields: []string{"a", "b", "a"}, All: true},
		"select a from t where b order by c limit 10": {Kind: api.CmdSelect, Name: "t", Fields: []string{"a"}, Where: col("b"), Order: "c", Limit: 10},
		"select * from t order by c":                  {Kind: api.CmdSelect, Name: "t", All: true, Order: "c", Limit: -1},
		"begin":                                       {Kind: api.CmdBegin},
		"commit":                                      {Kind: api.CmdCommit},
		"rollback":                                    {Kind: api.CmdRollback},
	} {
		wantShow(t, c, s, api.OK)
	}
}

func TestD1BlanksInExpressions(t *testing.T) {
	a, b := col("a"), col("b")
	for s, e := range map[string]api.Expr{
		"a":                     a,
		"null":                  val(api.Value{}),
		"'('":                   val(quoted("(")),
		"not a":                 of(api.ExprNot, a),
		"not not -1":            nots(2, val(number(-1))),
		"(a is null)":           of(api.ExprNull, a),
		"((a is null) is null)": of(api.ExprNull, of(api.ExprNull, a)),
		"not (a is null)":       of(api.ExprNot, of(api.ExprNull, a)),
		"(not a is null)":       of(api.ExprNull, of(api.ExprNot, a)),
		"(a and b)":             of(api.ExprAnd, a, b),
		"(a or b)":              of(api.ExprOr, a, b),
		"(a + b)":               of(api.ExprAdd, a, b),
		"(a - b)":               of(api.ExprSub, a, b),
		"(a - 1)":               of(api.ExprSub, a, val(number(1))),
		"(-1 - -1)":             of(api.ExprSub, val(number(-1)), val(number(-1))),
		"(a || b)":              of(api.ExprCat, a, b),
		"(a < b)":               of(api.ExprLess, a, b),
		"(a = b)":               of(api.ExprSame, a, b),
		"(')' || ',')":          of(api.ExprCat, val(quoted(")")), val(quoted(","))),
		"('(' || '(')":          of(api.ExprCat, val(quoted("(")), val(quoted("("))),
		"((a < 1) and (b = a))": of(api.ExprAnd, of(api.ExprLess, a, val(number(1))), of(api.ExprSame, b, a)),
	} {
		wantShow(t, api.Cmd{Kind: api.CmdDelete, Name: "t", Where: e}, "delete from t where "+s, api.OK)
		wantShow(t, api.Cmd{Kind: api.CmdUpdate, Name: "t", Column: "z", Expr: e, All: true}, "update t set z = "+s, api.OK)
	}
	wantShow(t, api.Cmd{Kind: api.CmdInsert, Name: "t", Values: []api.Value{quoted("("), quoted(","), quoted(")"), quoted(" ")}}, "insert into t values ('(', ',', ')', ' ')", api.OK)
}

func TestD1Errors(t *testing.T) {
	ring := of(api.ExprNot, api.Expr{})
	ring.Args[0] = ring
	for _, c := range []api.Cmd{
		{},
		{Kind: 17},
		{Kind: api.CmdDrop},
		{Kind: api.CmdDrop, Name: "table"},
		{Kind: api.CmdDrop, Name: "t", Other: "u"},
		{Kind: api.CmdCreate, Name: "t"},
		{Kind: api.CmdInsert, Name: "t", Values: []api.Value{{N: 1}}},
		{Kind: api.CmdDelete, Name: "t"},
		{Kind: api.CmdDelete, Name: "t", Where: of(api.ExprNot)},
		{Kind: api.CmdSelect, Name: "t", All: true, Limit: -2},
	} {
		wantShow(t, c, "", api.ErrForm)
	}
	for _, c := range []api.Cmd{
		{Columns: make([]api.Column, 6)},
		{Kind: api.CmdInsert, Name: "t", Values: make([]api.Value, 6)},
		{Kind: api.CmdSelect, Name: "t", Fields: make([]string, 6)},
		{Kind: api.CmdDelete, Name: "t", Where: nots(15, col("a"))},
		{Kind: api.CmdUpdate, Name: "t", Expr: ring},
	} {
		wantShow(t, c, "", api.ErrMany)
	}
}

// full: a command with something everywhere; it need not be a right one to be the same.
func full() api.Cmd {
	return api.Cmd{Kind: 1, Name: "a", Other: "b", Column: "c", Columns: []api.Column{{Name: "d", Type: 1}, {Name: "e", Type: 2}}, Type: 1, Value: number(1),
		Values: []api.Value{number(1), quoted("a")}, Fields: []string{"f", "g"}, Expr: of(api.ExprAdd, col("a"), val(number(1))), All: true,
		Where: of(api.ExprNot, of(api.ExprSame, col("a"), val(quoted("x")))), Order: "h", Limit: 1}
}

func TestD2Same(t *testing.T) {
	if !Same(full(), full()) || !Same(api.Cmd{}, api.Cmd{}) {
		t.Error("a command is the same as itself")
	}
	empty := api.Cmd{Columns: []api.Column{}, Values: []api.Value{}, Fields: []string{}, Expr: api.Expr{Args: []api.Expr{}}, Where: api.Expr{Args: []api.Expr{}}}
	if !Same(empty, api.Cmd{}) || !Same(api.Cmd{}, empty) {
		t.Error("an empty list may be nil or not")
	}
	if Same(full(), api.Cmd{}) || Same(api.Cmd{}, full()) {
		t.Error("an empty command is not the same as one that is not")
	}
}

// Each field, by itself, makes a command another one.
func TestD2EachFieldCounts(t *testing.T) {
	for i, turn := range []func(c *api.Cmd){
		func(c *api.Cmd) { c.Kind = 2 },
		func(c *api.Cmd) { c.Name = "b" },
		func(c *api.Cmd) { c.Name = "" },
		func(c *api.Cmd) { c.Other = "c" },
		func(c *api.Cmd) { c.Column = "d" },
		func(c *api.Cmd) { c.Columns = nil },
		func(c *api.Cmd) { c.Columns = c.Columns[:1] },
		func(c *api.Cmd) { c.Columns[1].Name = "d" },
		func(c *api.Cmd) { c.Columns[1].Type = 3 },
		func(c *api.Cmd) { slices.Reverse(c.Columns) },
		func(c *api.Cmd) { c.Type = 2 },
		func(c *api.Cmd) { c.Value.Kind = 3 },
		func(c *api.Cmd) { c.Value.N = 2 },
		func(c *api.Cmd) { c.Value.S = "a" },
		func(c *api.Cmd) { c.Values = append(c.Values, api.Value{}) },
		func(c *api.Cmd) { c.Values[0].Kind = 3 },
		func(c *api.Cmd) { c.Values[1].S = "" },
		func(c *api.Cmd) { c.Fields = c.Fields[1:] },
		func(c *api.Cmd) { c.Fields[0] = "g" },
		func(c *api.Cmd) { c.Expr.Kind = api.ExprSub },
		func(c *api.Cmd) { c.Expr.Name = "a" },
		func(c *api.Cmd) { c.Expr.Value = number(1) },
		func(c *api.Cmd) { c.Expr.Args = nil },
		func(c *api.Cmd) { c.Expr.Args[0].Name = "b" },
		func(c *api.Cmd) { c.Expr.Args[1].Value.N = 2 },
		func(c *api.Cmd) { slices.Reverse(c.Expr.Args) },
		func(c *api.Cmd) { c.All = false },
		func(c *api.Cmd) { c.Where = api.Expr{} },
		func(c *api.Cmd) { c.Where.Args[0].Kind = api.ExprLess },
		func(c *api.Cmd) { c.Where.Args[0].Args[1].Value.S = "y" },
		func(c *api.Cmd) { c.Where.Args[0].Args = append(c.Where.Args[0].Args, api.Expr{}) },
		func(c *api.Cmd) { c.Order = "" },
		func(c *api.Cmd) { c.Order = "i" },
		func(c *api.Cmd) { c.Limit = 0 },
		func(c *api.Cmd) { c.Limit = -1 },
	} {
		c := full()
		turn(&c)
		if Same(c, full()) || Same(full(), c) {
			t.Errorf("turn %d: %+v is not the same as it was", i, c)
		}
	}
}

// Sixteen bits of parts in one another are no hindrance.
func TestD2Deep(t *testing.T) {
	c := api.Cmd{Where: nots(1<<16, col("a"))}
	if !Same(c, api.Cmd{Where: nots(1<<16, col("a"))}) || Same(c, api.Cmd{Where: nots(1<<16, col("b"))}) || Same(c, api.Cmd{Where: nots(1<<16-1, col("a"))}) {
		t.Error("deep expressions are the same just if all in them is")
	}
}

// drawn: a right command, with all that its kind may have.
type drawn struct{ *rand.Rand }

func (r drawn) name() string {
	return []string{"a", "b", "bird", "abcdefghijkl", "z9", "tables"}[r.Intn(6)]
}

func (r drawn) value() api.Value {
	l := []api.Value{{}, number(0), number(7), number(-7), number(api.MaxInt), number(-api.MaxInt), quoted(""), quoted("a"), quoted("(, -)"), quoted("abcdefghijklmnopqrst"), truth(0), truth(1)}
	return l[r.Intn(len(l))]
}

// expr of so many parts.
func (r drawn) expr(parts int) api.Expr {
	switch {
	case parts == 1 && r.Intn(2) == 0:
		return col(r.name())
	case parts == 1:
		return val(r.value())
	case parts == 2 || r.Intn(4) == 0:
		return of(api.ExprNot+r.Intn(2), r.expr(parts-1))
	}
	first := 1 + r.Intn(parts-2)
	return of(api.ExprAnd+r.Intn(7), r.expr(first), r.expr(parts-1-first))
}

func (r drawn) command() api.Cmd {
	c := api.Cmd{Kind: 1 + r.Intn(16)}
	if c.Kind < api.CmdBegin {
		c.Name = r.name()
	}
	switch c.Kind {
	case api.CmdColumn, api.CmdIndex:
		c.Other, c.Column = r.name(), r.name()
	case api.CmdTable:
		c.Other = r.name()
	case api.CmdAdd:
		c.Column, c.Type, c.Value = r.name(), 1+r.Intn(3), r.value()
	case api.CmdRetype:
		c.Column, c.Type = r.name(), 1+r.Intn(3)
	case api.CmdTake:
		c.Column = r.name()
	case api.CmdUpdate:
		c.Column, c.Expr = r.name(), r.expr(1+r.Intn(api.MaxExpr))
	case api.CmdSelect:
		c.Order, c.Limit = []string{"", r.name()}[r.Intn(2)], []int{-1, 0, 7, 999999999}[r.Intn(4)]
	}
	for range 1 + r.Intn(api.MaxColumns) {
		switch c.Kind {
		case api.CmdCreate:
			c.Columns = append(c.Columns, api.Column{Name: r.name(), Type: 1 + r.Intn(3)})
		case api.CmdInsert:
			c.Values = append(c.Values, r.value())
		case api.CmdSelect:
			c.Fields = append(c.Fields, r.name())
		}
	}
	if c.Kind == api.CmdSelect && r.Intn(2) == 0 {
		c.Fields = nil
	}
	if c.Kind >= api.CmdDelete && c.Kind <= api.CmdSelect {
		if c.All = r.Intn(2) == 0; !c.All {
			c.Where = r.expr(1 + r.Intn(api.MaxExpr))
		}
	}
	return c
}

func TestD3ShownIsParsedToTheSame(t *testing.T) {
	r := drawn{rand.New(rand.NewSource(5))}
	for range 20000 {
		c := r.command()
		s, e := Show(c)
		d, at, f := command.Parse(s)
		if e != api.OK || f != api.OK || at != 0 || !Same(c, d) {
			t.Fatalf("Show(%+v) = %q, %d, which is parsed as %+v, %d, %d", c, s, e, d, at, f)
		}
	}
}

// What is parsed is shown as a text of the same command: all blanks that there are to spare go.
func TestD3ParsedIsShownAsATextOfTheSame(t *testing.T) {
	r := drawn{rand.New(rand.NewSource(6))}
	parted := strings.NewReplacer("(", " (\t", ")", "\n) ", ",", " ,  ", " ", "\n ")
	for range 5000 {
		s, _ := Show(r.command())
		if strings.Contains(s, "'") {
			continue
		}
		spaced := " " + strings.ReplaceAll(parted.Replace(s), "-", " - ") + "\t"
		c, _, e := command.Parse(spaced)
		if e == api.ErrMany && len(spaced) > api.MaxText {
			continue
		}
		if again, f := Show(c); again != s || e != api.OK || f != api.OK {
			t.Fatalf("%q is parsed (%d) and shown (%d) as %q; want %q", spaced, e, f, again, s)
		}
	}
}

func TestP2ShowOnlyReads(t *testing.T) {
	args := []api.Expr{col("a"), col("b"), col("c")}
	fields := []string{"a", "b"}
	c := api.Cmd{Kind: api.CmdSelect, Name: "t", Fields: fields[:1], Where: api.Expr{Kind: api.ExprAnd, Args: args[:2]}, Limit: -1}
	wantShow(t, c, "select a from t where (a and b)", api.OK)
	if !Same(c, c) || !slices.Equal(fields, []string{"a", "b"}) || args[2].Name != "c" || args[0].Name != "a" || args[1].Name != "b" {
		t.Errorf("%v %v", fields, args)
	}
}
