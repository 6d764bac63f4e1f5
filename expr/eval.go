package expr

import (
	"slices"

	"overhaul/api"
	"overhaul/value"
)

// valueOf an expression that has a kind, of a row that fits its columns.
func valueOf(l []api.Column, row []api.Value, e api.Expr) api.Value {
	switch e.Kind {
	case api.ExprValue:
		return e.Value
	case api.ExprColumn:
		return row[place(l, e.Name)]
	}
	var args []api.Value
	for _, a := range e.Args {
		args = append(args, valueOf(l, row, a))
	}
	if v, ok := despiteNothing(e.Kind, args); ok {
		return v
	}
	if slices.Contains(args, api.Value{}) {
		return api.Value{}
	}
	if e.Kind == api.ExprNot {
		return truth(args[0] == truth(false))
	}
	return ofTwo(e.Kind, args[0], args[1])
}

// despiteNothing: what comes whether or not one of its Args is nothing; false, if that hangs on it.
func despiteNothing(kind int, args []api.Value) (api.Value, bool) {
	has := func(v api.Value) bool { return slices.Contains(args, v) }
	switch {
	case kind == api.ExprNull:
		return truth(has(api.Value{})), true
	case kind == api.ExprAnd && has(truth(false)):
		return truth(false), true
	case kind == api.ExprOr && has(truth(true)):
		return truth(true), true
	}
	return api.Value{}, false
}

// ofTwo values of which none is nothing.
func ofTwo(kind int, a, b api.Value) api.Value {
	switch kind {
	case api.ExprAnd:
		return truth(true) // despiteNothing has told the other one
	case api.ExprOr:
		return truth(false) // likewise
	case api.ExprAdd:
		return orNothing(api.Value{Kind: api.TypeInt, N: a.N + b.N})
	case api.ExprSub:
		return orNothing(api.Value{Kind: api.TypeInt, N: a.N - b.N})
	case api.ExprCat:
		return orNothing(api.Value{Kind: api.TypeText, S: a.S + b.S})
	case api.ExprLess:
		order, _ := value.Order(a, b)
		return truth(order < 0)
	}
	return truth(a == b)
}

// orNothing: a value, if it is a right one; what is too great or too long is nothing.
func orNothing(v api.Value) api.Value {
	if value.Check(v) != api.OK {
		return api.Value{}
	}
	return v
}

func truth(holds bool) api.Value {
	if holds {
		return api.Value{Kind: api.TypeBool, N: 1}
	}
	return api.Value{Kind: api.TypeBool}
}
