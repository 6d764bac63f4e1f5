package expr

import (
	"math"
	"slices"
	"strings"
	"testing"

	"overhaul/api"
	"overhaul/command"
)

func number(n int) api.Value    { return api.Value{Kind: api.TypeInt, N: n} }
func quoted(s string) api.Value { return api.Value{Kind: api.TypeText, S: s} }

var none, yes, no = api.Value{}, api.Value{Kind: api.TypeBool, N: 1}, api.Value{Kind: api.TypeBool}

func val(v api.Value) api.Expr               { return api.Expr{Kind: api.ExprValue, Value: v} }
func col(name string) api.Expr               { return api.Expr{Kind: api.ExprColumn, Name: name} }
func of(kind int, args ...api.Expr) api.Expr { return api.Expr{Kind: kind, Args: args} }

func nots(many int, e api.Expr) api.Expr {
	for range many {
		e = of(api.ExprNot, e)
	}
	return e
}

// columns of each kind, and one more of the first.
func columns() []api.Column {
	return []api.Column{{Name: "n", Type: api.TypeInt}, {Name: "s", Type: api.TypeText}, {Name: "p", Type: api.TypeBool}, {Name: "m", Type: api.TypeInt}}
}

func row() []api.Value { return []api.Value{number(3), quoted("b"), yes, number(-7)} }

// parsed: the expression of a text.
func parsed(t *testing.T, s string) api.Expr {
	t.Helper()
	c, at, e := command.Parse("delete from t where " + s)
	if e != api.OK {
		t.Fatalf("%q can't be parsed: %d at %d", s, e, at)
	}
	return c.Where
}

func wantKind(t *testing.T, e api.Expr, want int, errno api.Errno) {
	t.Helper()
	if k, f := Kind(columns(), e); k != want || f != errno {
		t.Errorf("Kind(%+v) = %d, %d; want %d, %d", e, k, f, want, errno)
	}
}

func wantEval(t *testing.T, row []api.Value, e api.Expr, want api.Value, errno api.Errno) {
	t.Helper()
	if v, f := Eval(columns(), row, e); v != want || f != errno {
		t.Errorf("Eval(%v, %+v) = %v, %d; want %v, %d", row, e, v, f, want, errno)
	}
}

func wantHolds(t *testing.T, row []api.Value, e api.Expr, want bool, errno api.Errno) {
	t.Helper()
	if holds, f := Holds(columns(), row, e); holds != want || f != errno {
		t.Errorf("Holds(%v, %+v) = %t, %d; want %t, %d", row, e, holds, f, want, errno)
	}
}

// wantFault: all calls tell what is wrong with an expression, ahead of what is wrong with a row.
func wantFault(t *testing.T, e api.Expr, errno api.Errno) {
	t.Helper()
	wantKind(t, e, 0, errno)
	for _, r := range [][]api.Value{row(), nil, {{Kind: 9}, {}, {}, {}}} {
		wantEval(t, r, e, none, errno)
		wantHolds(t, r, e, false, errno)
	}
}

func TestE1Kinds(t *testing.T) {
	for s, want := range map[string]int{
		"null": 0, "5": api.TypeInt, "-5": api.TypeInt, "''": api.TypeText, "'a'": api.TypeText, "true": api.TypeBool, "false": api.TypeBool,
		"n": api.TypeInt, "s": api.TypeText, "p": api.TypeBool, "m": api.TypeInt,
		"not p": api.TypeBool, "not null": api.TypeBool, "not not true": api.TypeBool,
		"(n is null)": api.TypeBool, "(s is null)": api.TypeBool, "(p is null)": api.TypeBool, "(null is null)": api.TypeBool, "((n + 1) is null)": api.TypeBool,
		"(p and p)": api.TypeBool, "(p or p)": api.TypeBool, "(n + m)": api.TypeInt, "(n - 1)": api.TypeInt, "(s || 'x')": api.TypeText, "(n < m)": api.TypeBool, "(s = s)": api.TypeBool,
		"((n < 1) = p)": api.TypeBool, "((s || s) < (s || 'a'))": api.TypeBool, "((n + 1) - (m + 1))": api.TypeInt, "((n is null) and not (s is null))": api.TypeBool,
	} {
		wantKind(t, parsed(t, s), want, api.OK)
	}
}

// Nothing fits every kind; what is made with it is of the kind that it is of anyway.
func TestE1EachKindOfTwoWithEachKindOfArgs(t *testing.T) {
	made := map[int]int{api.ExprAnd: api.TypeBool, api.ExprOr: api.TypeBool, api.ExprAdd: api.TypeInt, api.ExprSub: api.TypeInt, api.ExprCat: api.TypeText, api.ExprLess: 0, api.ExprSame: 0}
	is := map[int]int{api.ExprAnd: api.TypeBool, api.ExprOr: api.TypeBool, api.ExprAdd: api.TypeInt, api.ExprSub: api.TypeInt, api.ExprCat: api.TypeText, api.ExprLess: api.TypeBool, api.ExprSame: api.TypeBool}
	args := [][]api.Expr{{val(none)}, {col("n"), val(number(1)), of(api.ExprSub, val(none), val(none))}, {col("s"), val(quoted("")), of(api.ExprCat, val(none), val(none))}, {col("p"), val(no), of(api.ExprNot, val(none))}}
	for kind := range made {
		for ka, as := range args {
			for kb, bs := range args {
				fits := (ka == 0 || ka == made[kind]) && (kb == 0 || kb == made[kind])
				if made[kind] == 0 {
					fits = ka == 0 || kb == 0 || ka == kb
				}
				for _, a := range as {
					for _, b := range bs {
						if fits {
							wantKind(t, of(kind, a, b), is[kind], api.OK)
						} else {
							wantFault(t, of(kind, a, b), api.ErrState)
						}
					}
				}
			}
		}
	}
}

func TestE1NotIsOfABool(t *testing.T) {
	for _, s := range []string{"n", "s", "1", "''", "(n + 1)", "(s || s)"} {
		wantFault(t, of(api.ExprNot, parsed(t, s)), api.ErrState)
		wantKind(t, of(api.ExprNull, parsed(t, s)), api.TypeBool, api.OK)
	}
}

// What is not of its kind tells, however deep it lies, also where its own kind would not matter.
func TestE1StateWithin(t *testing.T) {
	for _, s := range []string{"(not n is null)", "((n + s) is null)", "((p and (s = (n || 'a'))) is null)", "not not not s", "((p or p) and (p or 1))", "(null = (null < not 'a'))"} {
		wantFault(t, parsed(t, s), api.ErrState)
	}
}

func TestE1Many(t *testing.T) {
	wantKind(t, nots(api.MaxExpr-1, col("p")), api.TypeBool, api.OK)
	wantFault(t, nots(api.MaxExpr, col("p")), api.ErrMany)
	sum := col("n")
	for range 7 {
		sum = of(api.ExprAdd, sum, val(number(1)))
	}
	wantKind(t, sum, api.TypeInt, api.OK) // of fifteen
	wantFault(t, of(api.ExprLess, sum, val(number(1))), api.ErrMany)
	wantFault(t, of(api.ExprLess, val(number(1)), sum), api.ErrMany)
	wantFault(t, of(api.ExprNull, sum), api.ErrMany)
}

// Too many parts tell ahead of all else that is wrong; as many as there may be, however wrong, do not.
func TestE1ManyTellsFirst(t *testing.T) {
	for _, kind := range []int{0, -1, 12, api.ExprValue, api.ExprColumn, api.ExprNot, api.ExprAnd} {
		errno := api.ErrForm
		if kind < 1 || kind > 11 {
			errno = api.ErrKind
		}
		wantFault(t, api.Expr{Kind: kind, Args: make([]api.Expr, api.MaxExpr-1)}, errno)
		wantFault(t, api.Expr{Kind: kind, Args: make([]api.Expr, api.MaxExpr)}, api.ErrMany)
		wantFault(t, api.Expr{Kind: kind, Name: "z", Value: number(1), Args: make([]api.Expr, 1000)}, api.ErrMany)
	}
	wantFault(t, nots(api.MaxExpr-1, api.Expr{}), api.ErrKind)
	wantFault(t, nots(api.MaxExpr, api.Expr{}), api.ErrMany)
	wantFault(t, nots(api.MaxExpr-1, col("z")), api.ErrNone)
	wantFault(t, nots(api.MaxExpr-1, col("n")), api.ErrState)
	wantFault(t, nots(1<<16, col("p")), api.ErrMany)
}

// What has itself among its Args has no end.
func TestP1Ring(t *testing.T) {
	ring := of(api.ExprAnd, col("p"), col("p"))
	ring.Args[1] = ring
	wantFault(t, ring, api.ErrMany)
	ring = of(api.ExprNot, api.Expr{})
	ring.Args[0] = ring
	wantFault(t, ring, api.ErrMany)
}

func TestE1NoKind(t *testing.T) {
	for _, kind := range []int{math.MinInt, -1, 0, 12, 13, math.MaxInt} {
		for _, e := range []api.Expr{{}, {Value: number(1)}, {Value: api.Value{Kind: 9}}, {Name: "n"}, {Name: "z"}, {Args: []api.Expr{col("n")}}, {Args: []api.Expr{col("z"), {Kind: 3}}}} {
			e.Kind = kind
			wantFault(t, e, api.ErrKind)
			wantFault(t, of(api.ExprNull, e), api.ErrKind)
		}
	}
}

func TestE1Args(t *testing.T) {
	must := []int{api.ExprValue: 0, api.ExprColumn: 0, api.ExprNot: 1, api.ExprNull: 1, api.ExprAnd: 2, api.ExprOr: 2, api.ExprAdd: 2, api.ExprSub: 2, api.ExprCat: 2, api.ExprLess: 2, api.ExprSame: 2}
	for kind := api.ExprValue; kind <= api.ExprSame; kind++ {
		for many := range 5 {
			e := api.Expr{Kind: kind}
			if kind == api.ExprColumn {
				e.Name = "n"
			}
			for range many {
				e.Args = append(e.Args, val(none))
			}
			if _, f := Kind(columns(), e); (f == api.OK) != (many == must[kind]) {
				t.Errorf("Kind(%+v) = %d", e, f)
			}
			if many != must[kind] {
				wantFault(t, e, api.ErrForm)
			}
		}
	}
}

func TestE1WhatItsKindDoesNotName(t *testing.T) {
	for kind := api.ExprValue; kind <= api.ExprSame; kind++ {
		right := of(kind, val(none), val(none))
		switch kind {
		case api.ExprValue, api.ExprColumn:
			right.Args = nil
		case api.ExprNot, api.ExprNull:
			right.Args = right.Args[:1]
		}
		for _, v := range []api.Value{{Kind: 1}, {N: 1}, {S: "a"}, {Kind: 9}, yes} {
			e := right
			e.Value = v
			if kind == api.ExprColumn {
				e.Name = "n"
			}
			if kind != api.ExprValue {
				wantFault(t, e, api.ErrForm)
			}
		}
		for _, name := range []string{"n", "z", " "} {
			e := right
			e.Name = name
			if kind != api.ExprColumn {
				wantFault(t, e, api.ErrForm)
			}
		}
	}
}

func TestE1WrongValues(t *testing.T) {
	for v, errno := range map[api.Value]api.Errno{
		{Kind: 9}: api.ErrKind, {Kind: -1, N: 5}: api.ErrKind, {Kind: 4}: api.ErrKind,
		{N: 1}: api.ErrRange, {S: "a"}: api.ErrRange, number(api.MaxInt + 1): api.ErrRange, number(-api.MaxInt - 1): api.ErrRange,
		quoted("'"): api.ErrRange, quoted(strings.Repeat("x", api.MaxQuoted+1)): api.ErrRange, {Kind: api.TypeBool, N: 2}: api.ErrRange,
	} {
		wantFault(t, val(v), errno)
		wantFault(t, of(api.ExprNull, val(v)), errno)
		wantFault(t, of(api.ExprSame, col("n"), val(v)), errno)
		wantFault(t, api.Expr{Kind: api.ExprValue, Value: v, Name: "n"}, api.ErrForm)
		wantFault(t, api.Expr{Kind: api.ExprValue, Value: v, Args: []api.Expr{col("n")}}, api.ErrForm)
	}
	for _, v := range []api.Value{number(api.MaxInt), number(-api.MaxInt), quoted(strings.Repeat("x", api.MaxQuoted)), yes, no, none} {
		wantKind(t, val(v), v.Kind, api.OK)
		wantEval(t, row(), val(v), v, api.OK)
	}
}

func TestE1NoColumn(t *testing.T) {
	for _, name := range []string{"", "z", "N", "n ", "nn", "null", "true", "'"} {
		wantFault(t, col(name), api.ErrNone)
		wantFault(t, of(api.ExprNot, col(name)), api.ErrNone)
		wantFault(t, api.Expr{Kind: api.ExprColumn, Name: name, Args: []api.Expr{{}}}, api.ErrForm)
		wantFault(t, api.Expr{Kind: api.ExprColumn, Name: name, Value: number(1)}, api.ErrForm)
	}
	if k, e := Kind(nil, col("n")); k != 0 || e != api.ErrNone {
		t.Errorf("without columns: %d, %d", k, e)
	}
	if k, e := Kind(nil, of(api.ExprNull, val(none))); k != api.TypeBool || e != api.OK {
		t.Errorf("without columns: %d, %d", k, e)
	}
}

// Each part tells ahead of its Args, and all of the first one's ahead of the second one's.
func TestE1TheFirstPartTells(t *testing.T) {
	kind, form, wrong, missing := api.Expr{Kind: 12}, api.Expr{Kind: api.ExprNot}, val(number(api.MaxInt+1)), col("z")
	errnos := []api.Errno{api.ErrKind, api.ErrForm, api.ErrRange, api.ErrNone}
	for i, a := range []api.Expr{kind, form, wrong, missing} {
		for k, b := range []api.Expr{kind, form, wrong, missing} {
			wantFault(t, of(api.ExprAnd, a, b), errnos[i])
			wantFault(t, of(api.ExprAdd, of(api.ExprCat, col("n"), a), b), errnos[i])
			wantFault(t, of(api.ExprAdd, of(api.ExprNot, of(api.ExprNull, a)), of(api.ExprOr, b, a)), errnos[i])
			wantFault(t, of(api.ExprAdd, nots(9, val(none)), of(api.ExprOr, b, a)), errnos[k])
			wantFault(t, of(api.ExprNot, a, b), api.ErrForm)
			wantFault(t, of(12, a, b), api.ErrKind)
			wantFault(t, of(api.ExprSame, of(api.ExprNull, b, b), a), api.ErrForm)
		}
	}
}

// What is not of its kind tells behind all else, wherever that stands.
func TestE1StateTellsLast(t *testing.T) {
	for e, errno := range map[*api.Expr]api.Errno{{Kind: 12}: api.ErrKind, {Kind: api.ExprNot}: api.ErrForm, {Kind: api.ExprValue, Value: api.Value{N: 1}}: api.ErrRange, {Kind: api.ExprColumn, Name: "z"}: api.ErrNone} {
		wantFault(t, of(api.ExprAnd, of(api.ExprNot, col("n")), *e), errno)
		wantFault(t, of(api.ExprAnd, col("n"), *e), errno)
		wantFault(t, of(api.ExprSame, of(api.ExprSame, col("n"), col("s")), of(api.ExprNot, *e)), errno)
	}
}

// truths: false, nothing and true, each the opposite of the one that stands as far from the other end.
func truths() []api.Value { return []api.Value{no, none, yes} }

// With false, nothing and true rising, and is the lesser of two, or the greater, not the opposite.
func TestE2Truths(t *testing.T) {
	for i, a := range truths() {
		wantEval(t, row(), of(api.ExprNot, val(a)), truths()[2-i], api.OK)
		for k, b := range truths() {
			wantEval(t, row(), of(api.ExprAnd, val(a), val(b)), truths()[min(i, k)], api.OK)
			wantEval(t, row(), of(api.ExprOr, val(a), val(b)), truths()[max(i, k)], api.OK)
			r := []api.Value{none, none, a, none}
			wantEval(t, r, of(api.ExprAnd, col("p"), val(b)), truths()[min(i, k)], api.OK)
			wantEval(t, r, of(api.ExprOr, val(b), col("p")), truths()[max(i, k)], api.OK)
		}
	}
}

func TestE2Null(t *testing.T) {
	for _, name := range []string{"n", "s", "p", "m"} {
		wantEval(t, row(), of(api.ExprNull, col(name)), no, api.OK)
		wantEval(t, make([]api.Value, 4), of(api.ExprNull, col(name)), yes, api.OK)
	}
	for _, v := range []api.Value{number(0), quoted(""), no, yes, quoted("null")} {
		wantEval(t, row(), of(api.ExprNull, val(v)), no, api.OK)
	}
	wantEval(t, row(), parsed(t, "(null is null)"), yes, api.OK)
	wantEval(t, row(), parsed(t, "((null + 1) is null)"), yes, api.OK)
	wantEval(t, row(), parsed(t, "((null is null) is null)"), no, api.OK)
	wantEval(t, row(), parsed(t, "((999999999 + 1) is null)"), yes, api.OK)
}

// Nothing comes of nothing.
func TestE2Nothing(t *testing.T) {
	for _, s := range []string{"not null", "(null + 1)", "(1 + null)", "(null - 1)", "(1 - null)", "(null || 'a')", "('a' || null)", "(null < 1)", "('a' < null)", "(null = 1)", "(true = null)",
		"(null + null)", "(null || null)", "(null < null)", "(null = null)", "(null and null)", "(null or null)", "((1 + null) + 1)", "not (1 = (1 - null))"} {
		wantEval(t, row(), parsed(t, s), none, api.OK)
		wantEval(t, make([]api.Value, 4), parsed(t, s), none, api.OK)
	}
	for _, s := range []string{"n", "s", "p", "not p", "(n + 1)", "(1 - n)", "(s || '')", "(n < 1)", "(n = n)", "(s = s)", "(p = p)", "(p and true)", "(false or p)"} {
		wantEval(t, make([]api.Value, 4), parsed(t, s), none, api.OK)
	}
}

func TestE2Ints(t *testing.T) {
	for s, want := range map[string]int{
		"n": 3, "m": -7, "(n + m)": -4, "(n - m)": 10, "(m - n)": -10, "(n + 0)": 3, "((n + n) - (m + 1))": 12,
		"(999999998 + 1)": api.MaxInt, "(999999999 + 0)": api.MaxInt, "(-999999998 - 1)": -api.MaxInt, "(-999999999 + 0)": -api.MaxInt, "(999999999 - 999999999)": 0,
		"(-999999999 + 999999999)": 0, "(-999999999 - -1)": -999999998, "(1 - 1000000)": -999999,
	} {
		wantEval(t, row(), parsed(t, s), number(want), api.OK)
	}
	for _, s := range []string{"(999999999 + 1)", "(1 + 999999999)", "(-999999999 - 1)", "(-1 + -999999999)", "(999999999 - -1)", "(999999999 + 999999999)", "(-999999999 - 999999999)", "((999999999 + 1) - 1)"} {
		wantEval(t, row(), parsed(t, s), none, api.OK)
	}
}

func TestE2Texts(t *testing.T) {
	for s, want := range map[string]string{"s": "b", "(s || 'x')": "bx", "('x' || s)": "xb", "('' || '')": "", "(s || '')": "b", "('a ' || ' b')": "a  b", "(('1' || '2') || ('3' || '4'))": "1234"} {
		wantEval(t, row(), parsed(t, s), quoted(want), api.OK)
	}
	for a := range api.MaxQuoted + 1 {
		for b := range api.MaxQuoted + 1 {
			x, y := strings.Repeat("x", a), strings.Repeat("y", b)
			want := quoted(x + y)
			if a+b > api.MaxQuoted {
				want = none
			}
			wantEval(t, row(), of(api.ExprCat, val(quoted(x)), val(quoted(y))), want, api.OK)
		}
	}
}

// rising values of each kind.
func rising() [][]api.Value {
	return [][]api.Value{
		{number(-api.MaxInt), number(-10), number(-9), number(0), number(9), number(10), number(api.MaxInt)},
		{quoted(""), quoted(" "), quoted("10"), quoted("9"), quoted("A"), quoted("a"), quoted("aa"), quoted("b"), quoted("~")},
		{no, yes},
	}
}

func TestE2LessAndSame(t *testing.T) {
	is := func(holds bool) api.Value {
		if holds {
			return yes
		}
		return no
	}
	for _, l := range rising() {
		for i, a := range l {
			for k, b := range l {
				wantEval(t, row(), of(api.ExprLess, val(a), val(b)), is(i < k), api.OK)
				wantEval(t, row(), of(api.ExprSame, val(a), val(b)), is(i == k), api.OK)
			}
			wantEval(t, row(), of(api.ExprLess, val(none), val(a)), none, api.OK)
			wantEval(t, row(), of(api.ExprSame, val(a), val(none)), none, api.OK)
		}
	}
}

func TestE2Columns(t *testing.T) {
	for i, c := range columns() {
		wantEval(t, row(), col(c.Name), row()[i], api.OK)
	}
	if v, e := Eval(nil, nil, parsed(t, "(1 + 2)")); v != number(3) || e != api.OK {
		t.Errorf("without columns: %v, %d", v, e)
	}
}

// wantRowFault: what is wrong with a row tells whether or not the column is asked for.
func wantRowFault(t *testing.T, errno api.Errno, row ...api.Value) {
	t.Helper()
	for _, s := range []string{"n", "p", "true", "null", "(n is null)", "(s = s)"} {
		wantEval(t, row, parsed(t, s), none, errno)
		wantHolds(t, row, parsed(t, s), false, errno)
	}
}

func TestE2Rows(t *testing.T) {
	n, s := number(1), quoted("a")
	wantRowFault(t, api.ErrForm)
	wantRowFault(t, api.ErrForm, n, s, yes)
	wantRowFault(t, api.ErrForm, n, s, yes, n, n)
	wantRowFault(t, api.ErrForm, n, s, yes, n, none)
	wantRowFault(t, api.ErrForm, api.Value{Kind: 9}, s, s)
	wantRowFault(t, api.ErrKind, n, s, yes, api.Value{Kind: 9})
	wantRowFault(t, api.ErrKind, n, api.Value{Kind: -1}, yes, n)
	wantRowFault(t, api.ErrRange, n, s, api.Value{Kind: api.TypeBool, N: 2}, n)
	wantRowFault(t, api.ErrRange, number(api.MaxInt+1), s, yes, n)
	wantRowFault(t, api.ErrRange, api.Value{N: 1}, s, yes, n)
	wantRowFault(t, api.ErrRange, n, quoted("'"), yes, n)
	wantRowFault(t, api.ErrState, s, s, yes, n)
	wantRowFault(t, api.ErrState, n, n, yes, n)
	wantRowFault(t, api.ErrState, n, s, n, n)
	wantRowFault(t, api.ErrState, n, s, yes, yes)
	wantRowFault(t, api.ErrState, yes, none, none, none)
}

// A wrong value tells ahead of one of another kind, wherever it stands; of two wrong ones the first one does.
func TestE2RowFaultsInOrder(t *testing.T) {
	n, s := number(1), quoted("a")
	wantRowFault(t, api.ErrKind, s, n, n, api.Value{Kind: 9})
	wantRowFault(t, api.ErrRange, s, n, n, number(api.MaxInt+1))
	wantRowFault(t, api.ErrRange, number(api.MaxInt+1), s, yes, api.Value{Kind: 9})
	wantRowFault(t, api.ErrKind, n, api.Value{Kind: 9}, yes, number(api.MaxInt+1))
}

func TestE2Holds(t *testing.T) {
	for s, want := range map[string]bool{
		"p": true, "not p": false, "true": true, "false": false, "null": false, "not null": false, "not false": true,
		"(n = 3)": true, "(n = 4)": false, "(n < 4)": true, "(n < 3)": false, "(s = 'b')": true, "(n is null)": false, "not (n is null)": true,
		"(null = null)": false, "(null is null)": true, "(p and null)": false, "(p or null)": true, "not (p and null)": false, "(p and (m < n))": true,
	} {
		wantHolds(t, row(), parsed(t, s), want, api.OK)
	}
	wantHolds(t, make([]api.Value, 4), col("p"), false, api.OK)
	wantHolds(t, make([]api.Value, 4), of(api.ExprNot, col("p")), false, api.OK)
}

// Its kind counts, not what comes of it.
func TestE2HoldsOfABoolOrNothingAlone(t *testing.T) {
	for _, s := range []string{"n", "s", "1", "0", "''", "'true'", "(n + 1)", "(s || 'a')", "(999999999 + 1)", "(n + null)"} {
		wantHolds(t, row(), parsed(t, s), false, api.ErrState)
		wantHolds(t, make([]api.Value, 4), parsed(t, s), false, api.ErrState)
		wantHolds(t, nil, parsed(t, s), false, api.ErrForm)
		wantHolds(t, []api.Value{none, none, none, {Kind: 9}}, parsed(t, s), false, api.ErrKind)
	}
}

func TestP2OnlyRead(t *testing.T) {
	l, r := columns(), row()
	args := []api.Expr{col("p"), of(api.ExprLess, col("n"), val(number(4))), col("z")}
	e := api.Expr{Kind: api.ExprAnd, Args: args[:2]}
	if v, f := Eval(l[:3], r[:3], e); v != yes || f != api.OK {
		t.Errorf("%v, %d", v, f)
	}
	if holds, f := Holds(l[:3], r[:3], e); !holds || f != api.OK {
		t.Errorf("%t, %d", holds, f)
	}
	same := slices.EqualFunc(args, []api.Expr{col("p"), parsed(t, "(n < 4)"), col("z")}, sameExpr)
	if !slices.Equal(l, columns()) || !slices.Equal(r, row()) || !same {
		t.Errorf("%v %v %v", l, r, args)
	}
}

func sameExpr(a, b api.Expr) bool {
	return a.Kind == b.Kind && a.Value == b.Value && a.Name == b.Name && slices.EqualFunc(a.Args, b.Args, sameExpr)
}
