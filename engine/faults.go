package engine

import (
	"slices"

	"overhaul/api"
	"overhaul/expr"
	"overhaul/fit"
	"overhaul/table"
)

// eachFault: what is wrong with the first table of which something is.
func eachFault(l []api.Table) api.Errno {
	for _, t := range l {
		if f := table.Check(t); f != api.OK {
			return f
		}
	}
	return api.OK
}

// togetherFault: what is wrong with tables that may each stand alone.
func togetherFault(l []api.Table) api.Errno {
	indexes := indexesOf(l)
	switch {
	case hasTwice(l, func(t api.Table) string { return t.Name }):
		return api.ErrTwice
	case hasTwice(indexes, func(x api.Index) string { return x.Name }):
		return api.ErrTwice
	case len(indexes) > api.MaxIndexes:
		return api.ErrMany
	}
	return api.OK
}

// whereFault: what is wrong with the condition of a command, whichever rows there are.
func whereFault(l []api.Column, c api.Cmd) api.Errno {
	if c.All {
		return api.OK
	}
	return kindFault(l, c.Where, api.TypeBool, api.ErrState)
}

// kindFault: what is wrong with an expression, or, if it is not of the kind that it must be, another error.
func kindFault(l []api.Column, e api.Expr, must int, other api.Errno) api.Errno {
	kind, f := expr.Kind(l, e)
	if f != api.OK {
		return f
	}
	if !fit.Kind(kind, must) {
		return other
	}
	return api.OK
}

// hasTwice: have two of a list one name?
func hasTwice[T any](l []T, name func(T) string) bool {
	for i, x := range l {
		if slices.ContainsFunc(l[:i], func(ahead T) bool { return name(ahead) == name(x) }) {
			return true
		}
	}
	return false
}

// indexesOf all tables.
func indexesOf(l []api.Table) []api.Index {
	var all []api.Index
	for _, t := range l {
		all = append(all, t.Indexes...)
	}
	return all
}
