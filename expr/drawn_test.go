package expr

import (
	"math/rand"
	"strings"
	"testing"

	"overhaul/api"
	"overhaul/value"
)

// drawn: expressions and rows, the same each time.
type drawn struct{ *rand.Rand }

// value of a kind, or nothing.
func (r drawn) value(kind int) api.Value {
	if r.Intn(4) == 0 {
		return none
	}
	switch kind {
	case api.TypeInt:
		return number([]int{0, 1, -1, 3, 500000000, -500000000, api.MaxInt, -api.MaxInt}[r.Intn(8)])
	case api.TypeText:
		return quoted(strings.Repeat("a", []int{0, 1, 2, 7, 10, 19, 20}[r.Intn(7)]))
	case api.TypeBool:
		return []api.Value{no, yes}[r.Intn(2)]
	}
	return none
}

func (r drawn) row(l []api.Column) []api.Value {
	var row []api.Value
	for _, c := range l {
		row = append(row, r.value(c.Type))
	}
	return row
}

// expr of a kind (or nothing) that has at most so many parts.
func (r drawn) expr(kind, parts int) api.Expr {
	if parts < 3 || r.Intn(8) == 0 {
		if r.Intn(3) == 0 {
			return val(r.value(kind))
		}
		for _, i := range r.Perm(len(columns())) {
			if c := columns()[i]; c.Type == kind {
				return col(c.Name)
			}
		}
	}
	two := func(op, kind int) api.Expr {
		first := 1 + r.Intn(parts-2)
		return of(op, r.expr(kind, first), r.expr(kind, parts-1-first))
	}
	other := 1 + r.Intn(3)
	switch kind {
	case api.TypeInt:
		return two(api.ExprAdd+r.Intn(2), kind)
	case api.TypeText:
		return two(api.ExprCat, kind)
	}
	switch r.Intn(4) {
	case 0:
		return of(api.ExprNot, r.expr(kind, parts-1))
	case 1:
		return of(api.ExprNull, r.expr(other, parts-1))
	case 2:
		return two(api.ExprLess+r.Intn(2), other)
	}
	return two(api.ExprAnd+r.Intn(2), kind)
}

// model of a value: nil, an int, a string or a bool.
func model(v api.Value) any {
	switch v.Kind {
	case api.TypeInt:
		return v.N
	case api.TypeText:
		return v.S
	case api.TypeBool:
		return v.N == 1
	}
	return nil
}

// rank of a truth, so that and is the lesser one, or the greater one, and not turns them round.
func rank(x any) int {
	switch x {
	case true:
		return 1
	case false:
		return -1
	}
	return 0
}

func ofRank(n int) any { return []any{false, nil, true}[n+1] }

// modelled: what comes of an expression, told in another way.
func modelled(at map[string]api.Value, e api.Expr) any {
	switch e.Kind {
	case api.ExprValue:
		return model(e.Value)
	case api.ExprColumn:
		return model(at[e.Name])
	}
	a := modelled(at, e.Args[0])
	switch e.Kind {
	case api.ExprNot:
		return ofRank(-rank(a))
	case api.ExprNull:
		return a == nil
	}
	b := modelled(at, e.Args[1])
	switch e.Kind {
	case api.ExprAnd:
		return ofRank(min(rank(a), rank(b)))
	case api.ExprOr:
		return ofRank(max(rank(a), rank(b)))
	}
	if a == nil || b == nil {
		return nil
	}
	switch e.Kind {
	case api.ExprAdd:
		return bounded(a.(int) + b.(int))
	case api.ExprSub:
		return bounded(a.(int) - b.(int))
	case api.ExprCat:
		if s := a.(string) + b.(string); len(s) <= 20 {
			return s
		}
		return nil
	case api.ExprSame:
		return a == b
	}
	switch x := a.(type) {
	case int:
		return x < b.(int)
	case string:
		return x < b.(string)
	}
	return a == false && b == true
}

func bounded(n int) any {
	if n < -999999999 || n > 999999999 {
		return nil
	}
	return n
}

// What comes is what another way tells, and of the kind that Kind tells, or nothing.
func TestE3WhatComesIsOfItsKindOrNothing(t *testing.T) {
	r, l := drawn{rand.New(rand.NewSource(7))}, columns()
	came := map[any]int{}
	for range 60000 {
		e, row := r.expr(1+r.Intn(3), 1+r.Intn(api.MaxExpr)), r.row(l)
		kind, f := Kind(l, e)
		if f != api.OK {
			t.Fatalf("Kind(%+v) = %d", e, f)
		}
		v, f := Eval(l, row, e)
		if f != api.OK || value.Check(v) != api.OK || v != none && v.Kind != kind {
			t.Fatalf("Eval(%v, %+v) = %v, %d, of kind %d", row, e, v, f, kind)
		}
		at := map[string]api.Value{}
		for i, c := range l {
			at[c.Name] = row[i]
		}
		want := modelled(at, e)
		if model(v) != want {
			t.Fatalf("Eval(%v, %+v) = %v; want %v", row, e, v, want)
		}
		came[want]++
		holds, f := Holds(l, row, e)
		if isBool := kind == api.TypeBool || kind == 0; isBool && (f != api.OK || holds != (want == true)) || !isBool && (f != api.ErrState || holds) {
			t.Fatalf("Holds(%v, %+v) = %t, %d", row, e, holds, f)
		}
	}
	if came[nil] == 0 || came[true] == 0 || came[false] == 0 || came[api.MaxInt] == 0 || came[strings.Repeat("a", 20)] == 0 {
		t.Errorf("too little was tried: %v", came)
	}
}

// junk: whatever may be handed in.
func (r drawn) junk(deep int) api.Expr {
	e := api.Expr{Kind: r.Intn(13)}
	switch r.Intn(6) {
	case 0:
		e.Value = api.Value{Kind: r.Intn(5), N: r.Intn(3) - 1, S: []string{"", "a", "'"}[r.Intn(3)]}
	case 1:
		e.Name = []string{"n", "s", "p", "z"}[r.Intn(4)]
	}
	if deep == 0 {
		return e
	}
	for range r.Intn(4) {
		e.Args = append(e.Args, r.junk(deep-1))
	}
	return e
}

// oneByOne: the first error of E1, with the parts of an expression in a row.
func oneByOne(l []api.Column, parts []api.Expr) api.Errno {
	if len(parts) > 15 {
		return api.ErrMany
	}
	for _, e := range parts {
		has := false
		for _, c := range l {
			has = has || c.Name == e.Name
		}
		switch args := len(e.Args); {
		case e.Kind < 1 || e.Kind > 11:
			return api.ErrKind
		case e.Kind <= 2 && args != 0, (e.Kind == 3 || e.Kind == 4) && args != 1, e.Kind >= 5 && args != 2, e.Kind != 1 && e.Value != none, e.Kind != 2 && e.Name != "":
			return api.ErrForm
		case e.Kind == 1 && value.Check(e.Value) != api.OK:
			return value.Check(e.Value)
		case e.Kind == 2 && !has:
			return api.ErrNone
		}
	}
	return api.OK
}

// inARow: all parts of an expression, each ahead of its Args.
func inARow(e api.Expr) []api.Expr {
	l := []api.Expr{e}
	for _, a := range e.Args {
		l = append(l, inARow(a)...)
	}
	return l
}

// swapped: a right expression in which some parts are others.
func (r drawn) swapped(e api.Expr) api.Expr {
	if r.Intn(12) == 0 {
		return r.junk(r.Intn(2))
	}
	was := e.Args
	e.Args = nil
	for _, a := range was {
		e.Args = append(e.Args, r.swapped(a))
	}
	return e
}

// Whatever is handed in: the first error tells, in all calls, and nothing beside it.
func TestP1TheErrorNamedFirst(t *testing.T) {
	r, l := drawn{rand.New(rand.NewSource(8))}, columns()
	told := map[api.Errno]int{}
	for range 100000 {
		e := r.swapped(r.expr(1+r.Intn(3), 1+r.Intn(api.MaxExpr)))
		want := oneByOne(l, inARow(e))
		kind, f := Kind(l, e)
		if want != api.OK && f != want || want == api.OK && f != api.OK && f != api.ErrState || f != api.OK && kind != 0 {
			t.Fatalf("Kind(%+v) = %d, %d; want %d", e, kind, f, want)
		}
		told[f]++
		if f != api.OK {
			wantFault(t, e, f)
		}
	}
	for _, f := range []api.Errno{api.OK, api.ErrForm, api.ErrMany, api.ErrRange, api.ErrState, api.ErrNone, api.ErrKind} {
		if told[f] == 0 {
			t.Errorf("error %d was never told: %v", f, told)
		}
	}
}

// Columns that no table may have: each call ends, and tells nothing beside an error.
func TestP1AnyColumns(t *testing.T) {
	r := drawn{rand.New(rand.NewSource(9))}
	for range 100000 {
		var l []api.Column
		var row []api.Value
		for range r.Intn(5) {
			l = append(l, api.Column{Name: []string{"n", "s", "p", ""}[r.Intn(4)], Type: r.Intn(6) - 1})
			row = append(row, r.value(r.Intn(4)))
		}
		e := r.swapped(r.expr(1+r.Intn(3), 1+r.Intn(api.MaxExpr)))
		if k, f := Kind(l, e); f != api.OK && k != 0 {
			t.Fatalf("Kind(%v, %+v) = %d, %d", l, e, k, f)
		}
		if v, f := Eval(l, row, e); f != api.OK && v != none {
			t.Fatalf("Eval(%v, %v, %+v) = %v, %d", l, row, e, v, f)
		}
		if holds, f := Holds(l, row, e); f != api.OK && holds {
			t.Fatalf("Holds(%v, %v, %+v) = %t, %d", l, row, e, holds, f)
		}
	}
}
