// Package value: values: see doc/02-value.md.
package value

import (
	"cmp"
	"strconv"
	"strings"

	"overhaul/api"
	"overhaul/token"
)

// nothing is the kind of the value that is of no kind of columns.
const nothing = 0

// Check a value.
func Check(v api.Value) api.Errno {
	right := false
	switch v.Kind {
	case nothing:
		right = v.N == 0 && v.S == ""
	case api.TypeInt:
		right = isInt(v.N) && v.S == ""
	case api.TypeText:
		right = v.N == 0 && isQuotable(v.S)
	case api.TypeBool:
		right = (v.N == 0 || v.N == 1) && v.S == ""
	default:
		return api.ErrKind
	}
	if !right {
		return api.ErrRange
	}
	return api.OK
}

// Order of two values.
func Order(a, b api.Value) (int, api.Errno) {
	if e := Check(a); e != api.OK {
		return 0, e
	}
	if e := Check(b); e != api.OK {
		return 0, e
	}
	// Nothing needs no case of its own: its kind is below all others.
	return cmp.Or(cmp.Compare(a.Kind, b.Kind), cmp.Compare(a.N, b.N), strings.Compare(a.S, b.S)), api.OK
}

// Cast a value.
func Cast(v api.Value, to int) (api.Value, api.Errno) {
	if e := Check(v); e != api.OK {
		return api.Value{}, e
	}
	is, ok := ofEachKind(v)[to]
	if !ok {
		return api.Value{}, api.ErrKind
	}
	return is, api.OK
}

// Key of a value.
func Key(v api.Value) (string, api.Errno) {
	if e := Check(v); e != api.OK {
		return "", e
	}
	key := strconv.Itoa(v.Kind)
	switch v.Kind {
	case api.TypeInt:
		key += tenDigits(v.N + api.MaxInt + 1)
	case api.TypeText:
		key += v.S
	case api.TypeBool:
		key += strconv.Itoa(v.N)
	}
	return key, api.OK
}

// ofEachKind: what a right value is as each kind of columns; what has no such value is nothing there, so that just the kinds of columns are keys.
func ofEachKind(v api.Value) map[int]api.Value {
	is := map[int]api.Value{api.TypeInt: {}, api.TypeText: {}, api.TypeBool: {}}
	putInt := func(n int) { is[api.TypeInt] = api.Value{Kind: api.TypeInt, N: n} }
	putText := func(s string) { is[api.TypeText] = api.Value{Kind: api.TypeText, S: s} }
	putBool := func(holds bool) { is[api.TypeBool] = api.Value{Kind: api.TypeBool, N: one(holds)} }
	switch v.Kind {
	case api.TypeInt:
		putInt(v.N)
		putText(strconv.Itoa(v.N))
		putBool(v.N != 0)
	case api.TypeText:
		putText(v.S)
		if n, ok := intOf(v.S); ok {
			putInt(n)
		}
		if v.S == "true" || v.S == "false" {
			putBool(v.S == "true")
		}
	case api.TypeBool:
		putInt(v.N)
		putText(strconv.FormatBool(v.N == 1))
		putBool(v.N == 1)
	}
	return is
}

// intOf a text: the int that is written just so; Atoi alone would take a sign or noughts ahead, too.
func intOf(s string) (int, bool) {
	n, err := strconv.Atoi(s)
	if err != nil || !isInt(n) || strconv.Itoa(n) != s {
		return 0, false
	}
	return n, true
}

func isInt(n int) bool { return n >= -api.MaxInt && n <= api.MaxInt }

// isQuotable: may a text stand between quotes? What may, and how much of it, package token alone says.
func isQuotable(s string) bool {
	_, e := token.Join([]api.Token{{Kind: api.TokenText, Text: "'" + s + "'"}})
	return e == api.OK
}

// tenDigits of a number, as many for all, so that keys stand in order as numbers do.
func tenDigits(n int) string {
	digits := strconv.Itoa(n)
	return strings.Repeat("0", 10-len(digits)) + digits
}

func one(holds bool) int {
	if holds {
		return 1
	}
	return 0
}
