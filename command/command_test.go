package command

import (
	"math"
	"reflect"
	"slices"
	"strconv"
	"strings"
	"testing"

	"overhaul/api"
)

func number(n int) api.Value  { return api.Value{Kind: api.TypeInt, N: n} }
func text(s string) api.Value { return api.Value{Kind: api.TypeText, S: s} }
func truth(n int) api.Value   { return api.Value{Kind: api.TypeBool, N: n} }

func val(v api.Value) api.Expr { return api.Expr{Kind: api.ExprValue, Value: v} }
func col(name string) api.Expr { return api.Expr{Kind: api.ExprColumn, Name: name} }
func of(kind int, args ...api.Expr) api.Expr {
	return api.Expr{Kind: kind, Args: args}
}

// nots: an expression with so many others ahead of the last one in it.
func nots(many int, e api.Expr) api.Expr {
	for range many {
		e = of(api.ExprNot, e)
	}
	return e
}

// tidy: a command whose empty lists are all nil, for it does not matter which they are.
func tidy(c api.Cmd) api.Cmd {
	c.Columns = append([]api.Column(nil), c.Columns...)
	c.Values = append([]api.Value(nil), c.Values...)
	c.Fields = append([]string(nil), c.Fields...)
	c.Expr, c.Where = tidyExpr(c.Expr), tidyExpr(c.Where)
	return c
}

func tidyExpr(e api.Expr) api.Expr {
	var args []api.Expr
	for _, a := range e.Args {
		args = append(args, tidyExpr(a))
	}
	e.Args = args
	return e
}

func same(c, d api.Cmd) bool { return reflect.DeepEqual(tidy(c), tidy(d)) }

func wantParse(t *testing.T, s string, want api.Cmd) {
	t.Helper()
	c, at, e := Parse(s)
	if !same(c, want) || at != 0 || e != api.OK {
		t.Errorf("Parse(%q) = %+v, %d, %d; want %+v", s, c, at, e, want)
	}
}

func wantWrong(t *testing.T, s string, wantAt int, wantErrno api.Errno) {
	t.Helper()
	c, at, e := Parse(s)
	if !same(c, api.Cmd{}) || at != wantAt || e != wantErrno {
		t.Errorf("Parse(%q) = %+v, %d, %d; want nothing, %d, %d", s, c, at, e, wantAt, wantErrno)
	}
}

func wantCheck(t *testing.T, c api.Cmd, want api.Errno) {
	t.Helper()
	if e := Check(c); e != want {
		t.Errorf("Check(%+v) = %d; want %d", c, e, want)
	}
}

// example: a text and its command.
type example struct {
	s string
	c api.Cmd
}

// examples of all forms.
func examples() []example {
	return []example{
		{"create table bird (name text)", api.Cmd{Kind: api.CmdCreate, Name: "bird", Columns: []api.Column{{Name: "name", Type: api.TypeText}}}},
		{"create table e (n int, c text, v bool, k int, n int)", api.Cmd{Kind: api.CmdCreate, Name: "e", Columns: []api.Column{{Name: "n", Type: api.TypeInt}, {Name: "c", Type: api.TypeText}, {Name: "v", Type: api.TypeBool}, {Name: "k", Type: api.TypeInt}, {Name: "n", Type: api.TypeInt}}}},
		{"drop table bird", api.Cmd{Kind: api.CmdDrop, Name: "bird"}},
		{"alter table bird add seen bool default false", api.Cmd{Kind: api.CmdAdd, Name: "bird", Column: "seen", Type: api.TypeBool, Value: truth(0)}},
		{"alter table bird add legs int default 'two'", api.Cmd{Kind: api.CmdAdd, Name: "bird", Column: "legs", Type: api.TypeInt, Value: text("two")}},
		{"alter table bird add legs text default null", api.Cmd{Kind: api.CmdAdd, Name: "bird", Column: "legs", Type: api.TypeText}},
		{"alter table bird drop legs", api.Cmd{Kind: api.CmdTake, Name: "bird", Column: "legs"}},
		{"alter table bird rename legs to feet", api.Cmd{Kind: api.CmdColumn, Name: "bird", Column: "legs", Other: "feet"}},
		{"alter table bird rename bird to bird", api.Cmd{Kind: api.CmdColumn, Name: "bird", Column: "bird", Other: "bird"}},
		{"alter table bird retype legs int", api.Cmd{Kind: api.CmdRetype, Name: "bird", Column: "legs", Type: api.TypeInt}},
		{"alter table bird retype legs bool", api.Cmd{Kind: api.CmdRetype, Name: "bird", Column: "legs", Type: api.TypeBool}},
		{"alter table bird rename to fowl", api.Cmd{Kind: api.CmdTable, Name: "bird", Other: "fowl"}},
		{"create index l on bird (legs)", api.Cmd{Kind: api.CmdIndex, Name: "l", Other: "bird", Column: "legs"}},
		{"drop index l", api.Cmd{Kind: api.CmdUnindex, Name: "l"}},
		{"insert into bird values (null)", api.Cmd{Kind: api.CmdInsert, Name: "bird", Values: []api.Value{{}}}},
		{"insert into bird values ('wren', 2, -2, true, false)", api.Cmd{Kind: api.CmdInsert, Name: "bird", Values: []api.Value{text("wren"), number(2), number(-2), truth(1), truth(0)}}},
		{"delete from bird", api.Cmd{Kind: api.CmdDelete, Name: "bird", All: true}},
		{"delete from bird where seen", api.Cmd{Kind: api.CmdDelete, Name: "bird", Where: col("seen")}},
		{"delete from bird where null", api.Cmd{Kind: api.CmdDelete, Name: "bird", Where: val(api.Value{})}},
		{"update bird set legs = 3", api.Cmd{Kind: api.CmdUpdate, Name: "bird", Column: "legs", Expr: val(number(3)), All: true}},
		{"update bird set legs = (legs + 1) where not seen", api.Cmd{Kind: api.CmdUpdate, Name: "bird", Column: "legs", Expr: of(api.ExprAdd, col("legs"), val(number(1))), Where: of(api.ExprNot, col("seen"))}},
		{"select * from bird", api.Cmd{Kind: api.CmdSelect, Name: "bird", All: true, Limit: -1}},
		{"select a from bird", api.Cmd{Kind: api.CmdSelect, Name: "bird", Fields: []string{"a"}, All: true, Limit: -1}},
		{"select a, b, a, c, a from bird order by z", api.Cmd{Kind: api.CmdSelect, Name: "bird", Fields: []string{"a", "b", "a", "c", "a"}, All: true, Order: "z", Limit: -1}},
		{"select * from bird limit 0", api.Cmd{Kind: api.CmdSelect, Name: "bird", All: true}},
		{"select * from bird where (legs < 3) order by legs limit 999999999", api.Cmd{Kind: api.CmdSelect, Name: "bird", Where: of(api.ExprLess, col("legs"), val(number(3))), Order: "legs", Limit: 999999999}},
		{"begin", api.Cmd{Kind: api.CmdBegin}},
		{"commit", api.Cmd{Kind: api.CmdCommit}},
		{"rollback", api.Cmd{Kind: api.CmdRollback}},
	}
}

func TestC1Forms(t *testing.T) {
	for _, x := range examples() {
		wantParse(t, x.s, x.c)
	}
}

func TestC1BlanksDoNotMatter(t *testing.T) {
	wantParse(t, "\n select\t*from bird where(a=-1)limit 3\n", api.Cmd{Kind: api.CmdSelect, Name: "bird", Where: of(api.ExprSame, col("a"), val(number(-1))), Limit: 3})
	wantParse(t, "insert into bird values(- 7,'a' , - \n 1 )", api.Cmd{Kind: api.CmdInsert, Name: "bird", Values: []api.Value{number(-7), text("a"), number(-1)}})
	wantParse(t, "select * from bird where (1is null)", api.Cmd{Kind: api.CmdSelect, Name: "bird", Where: of(api.ExprNull, val(number(1))), Limit: -1})
}

func TestC1Values(t *testing.T) {
	for s, v := range map[string]api.Value{
		"0": number(0), "7": number(7), "-7": number(-7), "999999999": number(999999999), "-999999999": number(-999999999),
		"''": text(""), "' '": text(" "), "'true'": text("true"), "'abcdefghijklmnopqrst'": text("abcdefghijklmnopqrst"), "'(,)-\"'": text("(,)-\""),
		"true": truth(1), "false": truth(0), "null": {},
	} {
		wantParse(t, "insert into t values ("+s+")", api.Cmd{Kind: api.CmdInsert, Name: "t", Values: []api.Value{v}})
		wantParse(t, "alter table t add a int default "+s, api.Cmd{Kind: api.CmdAdd, Name: "t", Column: "a", Type: api.TypeInt, Value: v})
		wantParse(t, "delete from t where "+s, api.Cmd{Kind: api.CmdDelete, Name: "t", Where: val(v)})
	}
}

func TestC1Expressions(t *testing.T) {
	a, b := col("a"), col("b")
	for s, e := range map[string]api.Expr{
		"a":                              a,
		"not a":                          of(api.ExprNot, a),
		"not not 'a'":                    nots(2, val(text("a"))),
		"(a is null)":                    of(api.ExprNull, a),
		"(null is null)":                 of(api.ExprNull, val(api.Value{})),
		"(a and b)":                      of(api.ExprAnd, a, b),
		"(a or b)":                       of(api.ExprOr, a, b),
		"(a + b)":                        of(api.ExprAdd, a, b),
		"(a - b)":                        of(api.ExprSub, a, b),
		"(a || b)":                       of(api.ExprCat, a, b),
		"(a < b)":                        of(api.ExprLess, a, b),
		"(a = b)":                        of(api.ExprSame, a, b),
		"(a-1)":                          of(api.ExprSub, a, val(number(1))),
		"(a--1)":                         of(api.ExprSub, a, val(number(-1))),
		"(-1-0)":                         of(api.ExprSub, val(number(-1)), val(number(0))),
		"(not a is null)":                of(api.ExprNull, of(api.ExprNot, a)),
		"not (a is null)":                of(api.ExprNot, of(api.ExprNull, a)),
		"(not a and not b)":              of(api.ExprAnd, of(api.ExprNot, a), of(api.ExprNot, b)),
		"((a is null) is null)":          of(api.ExprNull, of(api.ExprNull, a)),
		"((a < 1) and (b = (a || 'x')))": of(api.ExprAnd, of(api.ExprLess, a, val(number(1))), of(api.ExprSame, b, of(api.ExprCat, a, val(text("x"))))),
	} {
		wantParse(t, "delete from t where "+s, api.Cmd{Kind: api.CmdDelete, Name: "t", Where: e})
		wantParse(t, "select * from t where "+s+" order by a", api.Cmd{Kind: api.CmdSelect, Name: "t", Where: e, Order: "a", Limit: -1})
		wantParse(t, "update t set z = "+s, api.Cmd{Kind: api.CmdUpdate, Name: "t", Column: "z", Expr: e, All: true})
	}
}

// theWords that stand in the forms of commands.
func theWords() []string {
	return strings.Fields("create table drop alter add default rename to retype index on insert into values delete from where update set select order by limit begin commit rollback int text bool true false null not is and or")
}

func TestC1WordsAreNoNames(t *testing.T) {
	for _, w := range theWords() {
		wantWrong(t, "drop table "+w, 11, api.ErrForm)
		wantWrong(t, "select * from t order by "+w, 25, api.ErrForm)
		wantWrong(t, "select a, "+w+" from t", 10, api.ErrForm)
		wantWrong(t, "create table t ("+w+" int)", 16, api.ErrForm)
		wantWrong(t, "alter table t rename a to "+w, 26, api.ErrForm)
		if w != "not" && w != "true" && w != "false" && w != "null" {
			wantWrong(t, "delete from t where "+w, 20, api.ErrForm)
		}
		wantCheck(t, api.Cmd{Kind: api.CmdDrop, Name: w}, api.ErrForm)
		wantCheck(t, api.Cmd{Kind: api.CmdDelete, Name: "t", Where: col(w)}, api.ErrForm)
		for _, name := range []string{w + "s", "x" + w, w + "1", w[1:]} {
			if !slices.Contains(theWords(), name) {
				wantParse(t, "drop table "+name, api.Cmd{Kind: api.CmdDrop, Name: name})
				wantCheck(t, api.Cmd{Kind: api.CmdDrop, Name: name}, api.OK)
			}
		}
	}
	for _, name := range []string{"e", "n", "c", "v", "k", "op", "kind", "fields"} {
		wantParse(t, "drop table "+name, api.Cmd{Kind: api.CmdDrop, Name: name})
	}
}

// Scan is asked of the whole text, ahead of all else.
func TestC2WhatScanSays(t *testing.T) {
	wantWrong(t, strings.Repeat(" ", api.MaxText+1), 0, api.ErrMany)
	wantWrong(t, "begin"+strings.Repeat(" ", api.MaxText-4), 0, api.ErrMany)
	wantParse(t, "begin"+strings.Repeat(" ", api.MaxText-5), api.Cmd{Kind: api.CmdBegin})
	wantWrong(t, "begin begin !", 12, api.ErrForm)
	wantWrong(t, "begin begin abcdefghijklm", 12, api.ErrMany)
	wantWrong(t, "insert into t values (01)", 22, api.ErrForm)
	wantWrong(t, "insert into t values (1234567890)", 22, api.ErrMany)
	wantWrong(t, "insert into t values ('abcdefghijklmnopqrstu')", 22, api.ErrMany)
	wantWrong(t, "BEGIN", 0, api.ErrForm)
}

func TestC2FirstTokenThatCannotStand(t *testing.T) {
	for _, x := range []struct {
		s  string
		at int
	}{
		{"", 0},
		{" \n ", 3},
		{"bird", 0},
		{"  'begin'", 2},
		{"begin;", 5},
		{"begin commit", 6},
		{"create", 6},
		{"create  ", 8},
		{"create bird", 7},
		{"create table t", 14},
		{"create table t a int)", 15},
		{"create table t ()", 16},
		{"create table t (a)", 17},
		{"create table t (a float)", 18},
		{"create table t (a int", 21},
		{"create table t (a int,", 22},
		{"create table t (a int,)", 22},
		{"create table t (a int b int)", 22},
		{"create table t (a int) ;", 23},
		{"create index i t (a)", 15},
		{"create index i on t ()", 21},
		{"create index i on t (a, b)", 22},
		{"create index i on t (a int)", 23},
		{"drop t", 5},
		{"drop table", 10},
		{"drop index 'i'", 11},
		{"alter t", 6},
		{"alter table t", 13},
		{"alter table t set", 14},
		{"alter table t add a default 1", 20},
		{"alter table t add a int", 23},
		{"alter table t add a int default", 31},
		{"alter table t add a int default a", 32},
		{"alter table t add a int default (1)", 32},
		{"alter table t drop a, b", 20},
		{"alter table t rename a b", 23},
		{"alter table t rename to", 23},
		{"alter table t rename to to", 24},
		{"alter table t rename a to b c", 28},
		{"alter table t retype a", 22},
		{"alter table t retype a null", 23},
		{"insert t values (1)", 7},
		{"insert into t (1)", 14},
		{"insert into t values", 20},
		{"insert into t values ()", 22},
		{"insert into t values (a)", 22},
		{"insert into t values (-)", 23},
		{"insert into t values (-0)", 23},
		{"insert into t values (--1)", 23},
		{"insert into t values (-'1')", 23},
		{"insert into t values (1 2)", 24},
		{"insert into t values (1,)", 24},
		{"insert into t values (not true)", 22},
		{"insert into t values ('a''b')", 25},
		{"delete t", 7},
		{"delete from t where", 19},
		{"delete from t where (a)", 22},
		{"delete from t where (a is not null)", 26},
		{"delete from t where a is null", 22},
		{"delete from t where (a = b = c)", 27},
		{"delete from t where a = b", 22},
		{"delete from t where (a * b)", 23},
		{"delete from t where (a = b", 26},
		{"delete from t where (+ a)", 21},
		{"delete from t where -a", 21},
		{"delete from t where -0", 21},
		{"delete from t where ()", 21},
		{"delete from t order by a", 14},
		{"update t", 8},
		{"update t a = 1", 9},
		{"update t set a", 14},
		{"update t set a 1", 15},
		{"update t set a =", 16},
		{"update t set a = 1, b = 2", 18},
		{"update t set a = 1 limit 1", 19},
		{"select from t", 7},
		{"select *, a from t", 8},
		{"select a, from t", 10},
		{"select a, * from t", 10},
		{"select (a) from t", 7},
		{"select a b from t", 9},
		{"select * t", 9},
		{"select * from t order a", 22},
		{"select * from t order by", 24},
		{"select * from t order by a, b", 26},
		{"select * from t limit", 21},
		{"select * from t limit a", 22},
		{"select * from t limit -1", 22},
		{"select * from t limit 'a'", 22},
		{"select * from t limit 3 order by a", 24},
		{"select * from t order by a where b", 27},
	} {
		wantWrong(t, x.s, x.at, api.ErrForm)
	}
}

// In sixty others only what holds no other can stand: a word or bracket that must be followed by one more can't.
func TestC2HowDeep(t *testing.T) {
	for _, ahead := range []string{"delete from t where ", "select * from t where ", "update t set a = ", "update t set a = 1 where "} {
		for _, within := range []struct{ open, shut string }{{"not ", ""}, {"(", " is null)"}, {"(", "+1)"}, {"(1 + ", ")"}} {
			deep := func(many int, last string) string {
				return ahead + strings.Repeat(within.open, many) + last + strings.Repeat(within.shut, many)
			}
			for _, last := range []string{"a", "1", "-1", "null"} {
				wantWrong(t, deep(60, last), 0, api.ErrMany)
			}
			at := len(ahead) + 60*len(within.open)
			wantWrong(t, deep(60, "(a + b)"), at, api.ErrForm)
			wantWrong(t, deep(60, "not a"), at, api.ErrForm)
			wantWrong(t, deep(61, "a"), at, api.ErrForm)
			wantWrong(t, deep(59, "not a"), 0, api.ErrMany)
			wantWrong(t, ahead+strings.Repeat(within.open, 60), at, api.ErrForm)
		}
	}
}

// Beside each other they may be as many as the text has room for.
func TestC2HowWide(t *testing.T) {
	wide := "(a + a)"
	for range 5 {
		wide = "(" + wide + " + " + wide + ")"
	}
	wantWrong(t, "delete from t where "+wide, 0, api.ErrMany)
	wantWrong(t, "delete from t where "+wide+")", 20+len(wide), api.ErrForm)
}

// What Check says comes last, and is told at 0.
func TestC2WhatCheckSays(t *testing.T) {
	wantWrong(t, "create table t (a int, b int, c int, d int, e int, f int)", 0, api.ErrMany)
	wantWrong(t, "create table t (a int, b int, c int, d int, e int, f)", 52, api.ErrForm)
	wantWrong(t, "insert into t values (1, 2, 3, 4, 5, 6)", 0, api.ErrMany)
	wantWrong(t, "select a, b, c, d, e, f from t", 0, api.ErrMany)
	wantWrong(t, "select a, b, c, d, e, f from t limit a", 37, api.ErrForm)
	wantParse(t, "delete from t where "+strings.Repeat("not ", 14)+"a", api.Cmd{Kind: api.CmdDelete, Name: "t", Where: nots(14, col("a"))})
	wantWrong(t, "delete from t where "+strings.Repeat("not ", 15)+"a", 0, api.ErrMany)
	wantWrong(t, "update t set a = "+strings.Repeat("not ", 15)+"a", 0, api.ErrMany)
}

func TestC3Right(t *testing.T) {
	for _, x := range examples() {
		wantCheck(t, x.c, api.OK)
		// An empty list may be handed in either way.
		c := tidy(x.c)
		c.Columns = append([]api.Column{}, c.Columns...)
		c.Values = append([]api.Value{}, c.Values...)
		c.Fields = append([]string{}, c.Fields...)
		c.Expr.Args = append([]api.Expr{}, c.Expr.Args...)
		c.Where.Args = append([]api.Expr{}, c.Where.Args...)
		wantCheck(t, c, api.OK)
	}
}

func TestC3NoSuchKind(t *testing.T) {
	for _, kind := range []int{0, -1, 17, math.MinInt, math.MaxInt} {
		wantCheck(t, api.Cmd{Kind: kind}, api.ErrForm)
		wantCheck(t, api.Cmd{Kind: kind, Name: "t"}, api.ErrForm)
	}
}

// field of a command: which kinds name it; set puts the next right thing there, if there is one more.
type field struct {
	name  string
	of    []int
	set   func(c *api.Cmd, right int) bool
	wrong []func(c *api.Cmd)
}

func nameField(name string, at func(c *api.Cmd) *string, mayBeNothing bool, of ...int) field {
	f := field{name: name, of: of}
	f.set = func(c *api.Cmd, right int) bool {
		names := []string{"x", "abcdefghijkl", "z9", "tables"}
		if right < len(names) {
			*at(c) = names[right]
		}
		return right < len(names)
	}
	for _, s := range []string{"", " ", "1", "1a", "a b", " a", "a ", "A", "aB", "a_b", "'a'", "*", "abcdefghijklm", "table", "e e", "\x00", strings.Repeat("a", 3000)} {
		if s != "" || !mayBeNothing {
			f.wrong = append(f.wrong, func(c *api.Cmd) { *at(c) = s })
		}
	}
	return f
}

func listField[T any](name string, at func(c *api.Cmd) *[]T, right, wrong []T, mayBeNothing bool, of ...int) field {
	f := field{name: name, of: of}
	f.set = func(c *api.Cmd, many int) bool {
		if many < api.MaxColumns {
			*at(c) = slices.Repeat(right, many+1)[:many+1]
		}
		return many < api.MaxColumns
	}
	if !mayBeNothing {
		f.wrong = append(f.wrong, func(c *api.Cmd) { *at(c) = nil }, func(c *api.Cmd) { *at(c) = []T{} })
	}
	for _, x := range wrong {
		f.wrong = append(f.wrong, func(c *api.Cmd) { *at(c) = []T{x} }, func(c *api.Cmd) { *at(c) = []T{right[0], right[0], x} })
	}
	return f
}

func exprField(name string, at func(c *api.Cmd) *api.Expr, of ...int) field {
	f := field{name: name, of: of}
	f.set = func(c *api.Cmd, right int) bool {
		l := rightExprs()
		if right < len(l) {
			*at(c) = l[right]
		}
		return right < len(l)
	}
	for _, e := range wrongExprs() {
		f.wrong = append(f.wrong, func(c *api.Cmd) { *at(c) = e })
	}
	return f
}

func rightExprs() []api.Expr {
	l := []api.Expr{val(number(-7)), val(text("it")), val(truth(1)), val(api.Value{}), col("a"), nots(14, col("a"))}
	for kind := api.ExprNot; kind <= api.ExprSame; kind++ {
		l = append(l, of(kind, slices.Repeat([]api.Expr{col("a")}, argsOfKind(kind))...))
	}
	return l
}

func argsOfKind(kind int) int {
	switch kind {
	case api.ExprValue, api.ExprColumn:
		return 0
	case api.ExprNot, api.ExprNull:
		return 1
	}
	return 2
}

func wrongExprs() []api.Expr {
	l := []api.Expr{{}, {Name: "a"}, {Value: number(1)}, {Kind: -1}, {Kind: 12}, {Kind: math.MinInt}, {Kind: math.MaxInt}, of(0, col("a")), of(12, col("a"), col("a"))}
	for _, v := range wrongValues() {
		l = append(l, val(v), of(api.ExprNot, val(v)))
	}
	for _, name := range []string{"", "A", "a b", "abcdefghijklm", "null", "1"} {
		l = append(l, col(name), of(api.ExprOr, val(number(1)), col(name)))
	}
	for kind := api.ExprValue; kind <= api.ExprSame; kind++ {
		right := of(kind, slices.Repeat([]api.Expr{col("a")}, argsOfKind(kind))...)
		if kind == api.ExprColumn {
			right.Name = "a"
		} else {
			named := right
			named.Name = "a"
			l = append(l, named)
		}
		if kind != api.ExprValue {
			valued := right
			valued.Value = number(0)
			odd := right
			odd.Value.N = 1
			l = append(l, valued, odd)
		}
		for many := range 4 {
			if many != argsOfKind(kind) {
				other := right
				other.Args = slices.Repeat([]api.Expr{col("a")}, many)
				l = append(l, other)
			}
		}
		if argsOfKind(kind) > 0 {
			inner := right
			inner.Args = slices.Clone(right.Args)
			inner.Args[len(inner.Args)-1] = api.Expr{}
			l = append(l, inner, of(api.ExprNot, inner))
		}
	}
	return l
}

func wrongValues() []api.Value {
	return []api.Value{{N: 1}, {S: "a"}, {Kind: 4}, {Kind: -1}, number(api.MaxInt + 1), number(-api.MaxInt - 1), {Kind: api.TypeInt, S: "1"}, text("'"), text("\n"), text("abcdefghijklmnopqrstu"), {Kind: api.TypeText, N: 1}, truth(2), truth(-1)}
}

func numberField(name string, at func(c *api.Cmd) *int, right, wrong []int, of ...int) field {
	f := field{name: name, of: of}
	f.set = func(c *api.Cmd, i int) bool {
		if i < len(right) {
			*at(c) = right[i]
		}
		return i < len(right)
	}
	for _, n := range wrong {
		f.wrong = append(f.wrong, func(c *api.Cmd) { *at(c) = n })
	}
	return f
}

// fields of commands, as the promise tells which kinds name them.
func fields() []field {
	var named []int
	for kind := api.CmdCreate; kind < api.CmdBegin; kind++ {
		named = append(named, kind)
	}
	values := []api.Value{number(0), text(""), {}, truth(1), number(-api.MaxInt)}
	l := []field{
		nameField("Name", func(c *api.Cmd) *string { return &c.Name }, false, named...),
		nameField("Other", func(c *api.Cmd) *string { return &c.Other }, false, api.CmdColumn, api.CmdTable, api.CmdIndex),
		nameField("Column", func(c *api.Cmd) *string { return &c.Column }, false, api.CmdAdd, api.CmdTake, api.CmdColumn, api.CmdRetype, api.CmdIndex, api.CmdUpdate),
		nameField("Order", func(c *api.Cmd) *string { return &c.Order }, true, api.CmdSelect),
		listField("Columns", func(c *api.Cmd) *[]api.Column { return &c.Columns }, []api.Column{{Name: "x", Type: api.TypeInt}, {Name: "y", Type: api.TypeText}, {Name: "x", Type: api.TypeBool}},
			[]api.Column{{}, {Name: "x"}, {Name: "x", Type: 4}, {Name: "x", Type: -1}, {Type: api.TypeInt}, {Name: "table", Type: api.TypeInt}, {Name: "X", Type: api.TypeInt}}, false, api.CmdCreate),
		listField("Values", func(c *api.Cmd) *[]api.Value { return &c.Values }, values, wrongValues(), false, api.CmdInsert),
		listField("Fields", func(c *api.Cmd) *[]string { return &c.Fields }, []string{"x", "x", "y1"}, []string{"", "X", "from", "*", "abcdefghijklm"}, true, api.CmdSelect),
		exprField("Expr", func(c *api.Cmd) *api.Expr { return &c.Expr }, api.CmdUpdate),
		numberField("Type", func(c *api.Cmd) *int { return &c.Type }, []int{api.TypeInt, api.TypeText, api.TypeBool}, []int{0, -1, 4, math.MaxInt, math.MinInt}, api.CmdAdd, api.CmdRetype),
		numberField("Limit", func(c *api.Cmd) *int { return &c.Limit }, []int{-1, 1, 999999999}, []int{-2, 1000000000, math.MaxInt, math.MinInt}, api.CmdSelect),
	}
	value := field{name: "Value", of: []int{api.CmdAdd}, set: func(c *api.Cmd, right int) bool {
		if right < len(values) {
			c.Value = values[right]
		}
		return right < len(values)
	}}
	for _, v := range wrongValues() {
		value.wrong = append(value.wrong, func(c *api.Cmd) { c.Value = v })
	}
	where := exprField("Where", func(c *api.Cmd) *api.Expr { c.All = false; return &c.Where }, api.CmdDelete, api.CmdUpdate, api.CmdSelect)
	all := field{name: "All", of: where.of, set: func(c *api.Cmd, right int) bool {
		c.All, c.Where = true, api.Expr{}
		return right < 1
	}}
	for _, e := range append(rightExprs(), wrongExprs()[1:]...) {
		all.wrong = append(all.wrong, func(c *api.Cmd) { c.All, c.Where = true, e })
	}
	return append(l, value, where, all)
}

// Each field of each kind: right, wrong, and where its kind does not name it.
func TestC3EachFieldOfEachKind(t *testing.T) {
	for _, x := range examples() {
		for _, f := range fields() {
			named := slices.Contains(f.of, x.c.Kind)
			for right, c := 0, x.c; f.set(&c, right); right, c = right+1, x.c {
				want := api.OK
				if !named && !same(c, x.c) {
					want = api.ErrForm
				}
				if e := Check(c); e != want {
					t.Errorf("%s: Check(%+v) = %d; want %d", f.name, c, e, want)
				}
			}
			for _, wrong := range f.wrong {
				c := x.c
				wrong(&c)
				if e := Check(c); named && e != api.ErrForm {
					t.Errorf("%s is wrong: Check(%+v) = %d", f.name, c, e)
				}
			}
		}
	}
}

// What is too much tells first, whatever else is wrong, and of whichever kind the command is.
func TestC3Many(t *testing.T) {
	for kind := -1; kind <= api.CmdRollback+1; kind++ {
		wantCheck(t, api.Cmd{Kind: kind, Columns: make([]api.Column, api.MaxColumns+1)}, api.ErrMany)
		wantCheck(t, api.Cmd{Kind: kind, Values: make([]api.Value, api.MaxColumns+1)}, api.ErrMany)
		wantCheck(t, api.Cmd{Kind: kind, Fields: make([]string, api.MaxColumns+1)}, api.ErrMany)
		wantCheck(t, api.Cmd{Kind: kind, Expr: nots(15, api.Expr{})}, api.ErrMany)
		wantCheck(t, api.Cmd{Kind: kind, Where: nots(15, api.Expr{})}, api.ErrMany)
		wantCheck(t, api.Cmd{Kind: kind, All: true, Where: api.Expr{Args: make([]api.Expr, 15)}}, api.ErrMany)
		wantCheck(t, api.Cmd{Kind: kind, Columns: make([]api.Column, api.MaxColumns), Values: make([]api.Value, api.MaxColumns), Fields: make([]string, api.MaxColumns), Expr: nots(14, api.Expr{}), Where: api.Expr{Args: make([]api.Expr, 14)}}, api.ErrForm)
	}
	// Each expression is counted alone, all parts of it.
	wantCheck(t, api.Cmd{Kind: api.CmdUpdate, Name: "t", Column: "a", Expr: nots(14, col("a")), Where: nots(14, col("a"))}, api.OK)
	seven := of(api.ExprAnd, of(api.ExprAnd, col("a"), col("b")), of(api.ExprAnd, col("a"), col("b")))
	wantCheck(t, api.Cmd{Kind: api.CmdDelete, Name: "t", Where: of(api.ExprOr, seven, seven)}, api.OK)
	wantCheck(t, api.Cmd{Kind: api.CmdDelete, Name: "t", Where: of(api.ExprOr, seven, of(api.ExprNot, seven))}, api.ErrMany)
}

// However many parts there are, even without an end, it is soon told.
func TestP1CheckEnds(t *testing.T) {
	e := col("a")
	for range 100 {
		e = of(api.ExprAnd, e, e)
	}
	wantCheck(t, api.Cmd{Kind: api.CmdDelete, Name: "t", Where: e}, api.ErrMany)
	ring := of(api.ExprNot, api.Expr{})
	ring.Args[0] = ring
	if Check(api.Cmd{Kind: api.CmdDelete, Name: "t", Where: ring}) != api.ErrMany {
		t.Error("an expression that stands in itself has many parts")
	}
	wantWrong(t, "delete from t where "+strings.Repeat("(", 1900), 80, api.ErrForm)
	for n := range 256 {
		for _, s := range []string{string([]byte{byte(n)}), "delete from t where " + string([]byte{byte(n)})} {
			Parse(s)
		}
	}
}

func TestP2CheckOnlyReads(t *testing.T) {
	spare := []api.Expr{col("a"), col("b"), col("c"), col("d")}
	where := api.Expr{Kind: api.ExprNot, Args: spare[:1]}
	columns := []api.Column{{Name: "a", Type: 1}, {Name: "b", Type: 1}}
	wantCheck(t, api.Cmd{Kind: api.CmdDelete, Name: "t", Where: where}, api.OK)
	wantCheck(t, api.Cmd{Kind: api.CmdCreate, Name: "t", Columns: columns[:1]}, api.OK)
	if !reflect.DeepEqual(spare, []api.Expr{col("a"), col("b"), col("c"), col("d")}) || columns[0].Name != "a" || columns[1].Name != "b" {
		t.Errorf("%v %v", spare, columns)
	}
}

func TestP2AnswersAreNew(t *testing.T) {
	for _, x := range examples() {
		first, _, _ := Parse(x.s)
		blot(first.Where)
		blot(first.Expr)
		clear(first.Columns[:cap(first.Columns)])
		clear(first.Values[:cap(first.Values)])
		clear(first.Fields[:cap(first.Fields)])
		wantParse(t, x.s, x.c)
	}
	c, _, _ := Parse("update t set a = ((a + b) + (a + b)) where ((a + b) = (a + b))")
	seen := []*api.Expr{}
	lists(c.Expr, &seen)
	lists(c.Where, &seen)
	for i, p := range seen {
		if slices.Index(seen, p) != i {
			t.Error("two lists share memory")
		}
	}
}

func blot(e api.Expr) {
	for i := range e.Args {
		blot(e.Args[i])
	}
	clear(e.Args[:cap(e.Args)])
}

func lists(e api.Expr, seen *[]*api.Expr) {
	for i := range e.Args[:cap(e.Args)] {
		*seen = append(*seen, &e.Args[:cap(e.Args)][i])
	}
	for _, a := range e.Args {
		lists(a, seen)
	}
}

func quoted(v api.Value) string {
	switch v.Kind {
	case 0:
		return "null"
	case api.TypeInt:
		return strconv.Itoa(v.N)
	case api.TypeText:
		return "'" + v.S + "'"
	}
	return map[int]string{0: "false", 1: "true"}[v.N]
}
