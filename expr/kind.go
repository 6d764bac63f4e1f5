package expr

import (
	"cmp"
	"slices"

	"overhaul/api"
	"overhaul/command"
	"overhaul/value"
)

// shape of a kind of expressions: how many Args it has, of which kind they must be (nothing: of one kind, whichever), and of which it is then.
type shape struct{ args, made, is int }

// shapeOf a kind; false, if there is no such kind. What has no Args takes its kind from elsewhere.
func shapeOf(kind int) (shape, bool) {
	switch kind {
	case api.ExprValue, api.ExprColumn:
		return shape{}, true
	case api.ExprNot:
		return shape{args: 1, made: api.TypeBool, is: api.TypeBool}, true
	case api.ExprNull:
		return shape{args: 1, made: nothing, is: api.TypeBool}, true
	case api.ExprAnd, api.ExprOr:
		return shape{args: 2, made: api.TypeBool, is: api.TypeBool}, true
	case api.ExprAdd, api.ExprSub:
		return shape{args: 2, made: api.TypeInt, is: api.TypeInt}, true
	case api.ExprCat:
		return shape{args: 2, made: api.TypeText, is: api.TypeText}, true
	case api.ExprLess, api.ExprSame:
		return shape{args: 2, made: nothing, is: api.TypeBool}, true
	}
	return shape{}, false
}

// isLong: has it too many parts? Package command says that of a command ahead of all else, so no more of the command need be there.
func isLong(e api.Expr) bool {
	return command.Check(api.Cmd{Where: e}) == api.ErrMany
}

// fault of an expression that is not too long: that of its first part of which something is wrong, each ahead of its Args.
func fault(l []api.Column, e api.Expr) api.Errno {
	if f := partFault(l, e); f != api.OK {
		return f
	}
	for _, a := range e.Args {
		if f := fault(l, a); f != api.OK {
			return f
		}
	}
	return api.OK
}

// partFault: what is wrong with a part, whatever its Args are.
func partFault(l []api.Column, e api.Expr) api.Errno {
	s, ok := shapeOf(e.Kind)
	if !ok {
		return api.ErrKind
	}
	hasMore := e.Kind != api.ExprValue && e.Value != api.Value{} || e.Kind != api.ExprColumn && e.Name != ""
	if len(e.Args) != s.args || hasMore {
		return api.ErrForm
	}
	if e.Kind == api.ExprColumn && place(l, e.Name) < 0 {
		return api.ErrNone
	}
	// Of all other kinds Value is nothing here, which is right.
	return value.Check(e.Value)
}

// kindOf an expression that has no fault; false, if something in it is not of the kind that it must be.
func kindOf(l []api.Column, e api.Expr) (int, bool) {
	switch e.Kind {
	case api.ExprValue:
		return e.Value.Kind, true
	case api.ExprColumn:
		return l[place(l, e.Name)].Type, true
	}
	s, _ := shapeOf(e.Kind)
	must := s.made
	for _, a := range e.Args {
		kind, fits := kindOf(l, a)
		if !fits || kind != nothing && must != nothing && kind != must {
			return nothing, false
		}
		// Where any kind will do, the first that there is says which.
		must = cmp.Or(must, kind)
	}
	return s.is, true
}

// place of the column with a name; below 0, if there is none.
func place(l []api.Column, name string) int {
	return slices.IndexFunc(l, func(c api.Column) bool { return c.Name == name })
}
