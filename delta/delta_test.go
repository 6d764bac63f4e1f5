package delta

import (
	"math"
	"slices"
	"testing"

	"overhaul/api"
)

func number(n int) api.Value  { return api.Value{Kind: api.TypeInt, N: n} }
func text(s string) api.Value { return api.Value{Kind: api.TypeText, S: s} }
func truth(n int) api.Value   { return api.Value{Kind: api.TypeBool, N: n} }

var none = api.Value{}

func add(v api.Value) api.Delta     { return api.Delta{Kind: api.DeltaAdd, Value: v} }
func take(at int) api.Delta         { return api.Delta{Kind: api.DeltaTake, At: at} }
func retype(at, kind int) api.Delta { return api.Delta{Kind: api.DeltaRetype, At: at, Type: kind} }

func row(l ...api.Value) []api.Value    { return l }
func deltas(l ...api.Delta) []api.Delta { return l }

func wantCheck(t *testing.T, width int, l []api.Delta, want int, errno api.Errno) {
	t.Helper()
	if got, e := Check(width, l); got != want || e != errno {
		t.Errorf("Check(%d, %v) = %d, %d; want %d, %d", width, l, got, e, want, errno)
	}
}

func wantApply(t *testing.T, r []api.Value, l []api.Delta, want []api.Value, errno api.Errno) {
	t.Helper()
	if got, e := Apply(r, l); !slices.Equal(got, want) || e != errno {
		t.Errorf("Apply(%v, %v) = %v, %d; want %v, %d", r, l, got, e, want, errno)
	}
}

// Of each width each kind of deltas, both sides of each place.
func TestG1Widths(t *testing.T) {
	for width := 0; width <= api.MaxColumns; width++ {
		wantCheck(t, width, nil, width, api.OK)
		wantCheck(t, width, []api.Delta{}, width, api.OK)
		if width < api.MaxColumns {
			wantCheck(t, width, deltas(add(none)), width+1, api.OK)
		} else {
			wantCheck(t, width, deltas(add(none)), 0, api.ErrMany)
		}
		for at := -2; at <= api.MaxColumns+1; at++ {
			if at >= 0 && at < width {
				wantCheck(t, width, deltas(take(at)), width-1, api.OK)
				wantCheck(t, width, deltas(retype(at, api.TypeText)), width, api.OK)
			} else {
				wantCheck(t, width, deltas(take(at)), 0, api.ErrNone)
				wantCheck(t, width, deltas(retype(at, api.TypeText)), 0, api.ErrNone)
			}
		}
	}
	for _, at := range []int{math.MinInt, math.MaxInt} {
		wantCheck(t, 3, deltas(take(at)), 0, api.ErrNone)
		wantCheck(t, 3, deltas(retype(at, api.TypeInt)), 0, api.ErrNone)
	}
}

// A width that none may be tells ahead of whatever is wrong with deltas.
func TestG1WidthsThatNoneMayBe(t *testing.T) {
	for _, width := range []int{math.MinInt, -1, api.MaxColumns + 1, math.MaxInt} {
		wantCheck(t, width, nil, 0, api.ErrRange)
		wantCheck(t, width, deltas(take(0)), 0, api.ErrRange)
		wantCheck(t, width, deltas(add(none)), 0, api.ErrRange)
		wantCheck(t, width, deltas(api.Delta{}), 0, api.ErrRange)
		wantCheck(t, width, deltas(api.Delta{Kind: api.DeltaAdd, At: 1}), 0, api.ErrRange)
	}
}

func TestG1WidthsOnTheWay(t *testing.T) {
	wantCheck(t, 5, deltas(take(4), add(none)), 5, api.OK)
	wantCheck(t, 5, deltas(add(none), take(4)), 0, api.ErrMany)
	wantCheck(t, 4, deltas(add(none), add(none), take(0)), 0, api.ErrMany)
	wantCheck(t, 4, deltas(add(none), take(0), add(none)), 5, api.OK)
	wantCheck(t, 1, deltas(take(0)), 0, api.OK)
	wantCheck(t, 1, deltas(take(0), take(0)), 0, api.ErrNone)
	wantCheck(t, 1, deltas(take(0), add(none), retype(0, api.TypeInt)), 1, api.OK)
	wantCheck(t, 1, deltas(take(0), retype(0, api.TypeInt), add(none)), 0, api.ErrNone)
	wantCheck(t, 0, deltas(add(none), add(none), add(none), add(none), add(none)), 5, api.OK)
	wantCheck(t, 0, deltas(add(none), add(none), add(none), add(none), add(none), add(none)), 0, api.ErrMany)
	wantCheck(t, 2, deltas(retype(2, api.TypeInt), add(none)), 0, api.ErrNone)
	wantCheck(t, 2, deltas(add(none), retype(2, api.TypeInt)), 3, api.OK)
	wantCheck(t, 2, deltas(add(none), retype(3, api.TypeInt)), 0, api.ErrNone)
	wantCheck(t, 2, deltas(take(1), take(1)), 0, api.ErrNone)
	wantCheck(t, 2, deltas(take(1), take(0)), 0, api.OK)
}

func TestG1Kinds(t *testing.T) {
	for _, kind := range []int{math.MinInt, -1, 0, 4, 5, math.MaxInt} {
		wantCheck(t, 2, deltas(api.Delta{Kind: kind}), 0, api.ErrKind)
		wantCheck(t, 2, deltas(add(none), api.Delta{Kind: kind}), 0, api.ErrKind)
		wantCheck(t, 2, deltas(retype(0, kind)), 0, api.ErrKind)
	}
	for kind := api.TypeInt; kind <= api.TypeBool; kind++ {
		wantCheck(t, 2, deltas(retype(1, kind)), 2, api.OK)
	}
}

func TestG1WhatAKindDoesNotName(t *testing.T) {
	for _, n := range []int{math.MinInt, -1, 1, 2, 3, math.MaxInt} {
		wantCheck(t, 2, deltas(api.Delta{Kind: api.DeltaAdd, At: n}), 0, api.ErrForm)
		wantCheck(t, 2, deltas(api.Delta{Kind: api.DeltaAdd, Type: n}), 0, api.ErrForm)
		wantCheck(t, 2, deltas(api.Delta{Kind: api.DeltaTake, Type: n}), 0, api.ErrForm)
	}
	for _, v := range row(number(0), text(""), truth(0), api.Value{N: 1}, api.Value{S: "a"}, api.Value{Kind: 4}) {
		wantCheck(t, 2, deltas(api.Delta{Kind: api.DeltaTake, Value: v}), 0, api.ErrForm)
		wantCheck(t, 2, deltas(api.Delta{Kind: api.DeltaRetype, Type: api.TypeInt, Value: v}), 0, api.ErrForm)
	}
}

func TestG1ValuesOfNewColumns(t *testing.T) {
	for _, v := range row(none, number(0), number(-api.MaxInt), number(api.MaxInt), text(""), text("abcdefghijklmnopqrst"), truth(0), truth(1)) {
		wantCheck(t, 2, deltas(add(v)), 3, api.OK)
	}
	for _, v := range row(api.Value{N: 1}, api.Value{S: "a"}, number(api.MaxInt+1), number(-api.MaxInt-1), text("abcdefghijklmnopqrstu"), text("'"), text("\n"), truth(2)) {
		wantCheck(t, 2, deltas(add(v)), 0, api.ErrRange)
	}
	for _, kind := range []int{-1, 4, math.MaxInt} {
		wantCheck(t, 2, deltas(add(api.Value{Kind: kind})), 0, api.ErrKind)
	}
}

// Of one delta the error that is named first tells.
func TestG1ErrorsOfOneDeltaInOrder(t *testing.T) {
	wantCheck(t, 5, deltas(api.Delta{At: 9, Type: 9, Value: truth(2)}), 0, api.ErrKind)
	wantCheck(t, 5, deltas(api.Delta{Kind: api.DeltaAdd, At: 1, Value: truth(2)}), 0, api.ErrForm)
	wantCheck(t, 5, deltas(api.Delta{Kind: api.DeltaAdd, Type: 9, Value: api.Value{Kind: 9}}), 0, api.ErrForm)
	wantCheck(t, 5, deltas(api.Delta{Kind: api.DeltaAdd, Type: 1}), 0, api.ErrForm)
	wantCheck(t, 5, deltas(api.Delta{Kind: api.DeltaTake, At: 9, Type: 1}), 0, api.ErrForm)
	wantCheck(t, 5, deltas(api.Delta{Kind: api.DeltaRetype, At: 9, Type: 9, Value: truth(2)}), 0, api.ErrForm)
	wantCheck(t, 5, deltas(add(truth(2))), 0, api.ErrRange)
	wantCheck(t, 5, deltas(add(api.Value{Kind: 9})), 0, api.ErrKind)
	wantCheck(t, 5, deltas(retype(5, 9)), 0, api.ErrNone)
	wantCheck(t, 5, deltas(retype(4, 9)), 0, api.ErrKind)
}

// The first delta of which something is wrong tells, whatever is wrong behind it.
func TestG1DeltaByDelta(t *testing.T) {
	wrong := []struct {
		d     api.Delta
		errno api.Errno
	}{
		{api.Delta{}, api.ErrKind},
		{api.Delta{Kind: api.DeltaAdd, At: 1}, api.ErrForm},
		{add(truth(2)), api.ErrRange},
		{add(none), api.ErrMany},
		{take(5), api.ErrNone},
		{retype(0, 0), api.ErrKind},
	}
	for _, a := range wrong {
		for _, b := range wrong {
			wantCheck(t, 5, deltas(a.d, b.d), 0, a.errno)
			wantCheck(t, 5, deltas(retype(0, api.TypeInt), a.d, b.d), 0, a.errno)
		}
	}
}

func TestG2NoDeltas(t *testing.T) {
	for _, r := range [][]api.Value{nil, row(none), row(number(1), text("a"), truth(1), none, none)} {
		wantApply(t, r, nil, r, api.OK)
		wantApply(t, r, []api.Delta{}, r, api.OK)
	}
}

func TestG2Add(t *testing.T) {
	wantApply(t, nil, deltas(add(none)), row(none), api.OK)
	wantApply(t, nil, deltas(add(text("x"))), row(text("x")), api.OK)
	wantApply(t, row(number(1), none), deltas(add(truth(0))), row(number(1), none, truth(0)), api.OK)
	wantApply(t, row(number(1)), deltas(add(truth(1)), add(number(-1)), add(text("")), add(none)), row(number(1), truth(1), number(-1), text(""), none), api.OK)
}

func TestG2Take(t *testing.T) {
	l := row(number(0), number(1), number(2), number(3), number(4))
	for at := range l {
		wantApply(t, l, deltas(take(at)), slices.Concat(l[:at], l[at+1:]), api.OK)
	}
	wantApply(t, row(text("a")), deltas(take(0)), nil, api.OK)
	wantApply(t, l, deltas(take(1), take(1), take(2)), row(number(0), number(3)), api.OK)
}

func TestG2Retype(t *testing.T) {
	for _, c := range []struct {
		v               api.Value
		int, text, bool api.Value
	}{
		{none, none, none, none},
		{number(0), number(0), text("0"), truth(0)},
		{number(-12), number(-12), text("-12"), truth(1)},
		{text("7"), number(7), text("7"), none},
		{text("07"), none, text("07"), none},
		{text("true"), none, text("true"), truth(1)},
		{text("false"), none, text("false"), truth(0)},
		{text(""), none, text(""), none},
		{truth(0), number(0), text("false"), truth(0)},
		{truth(1), number(1), text("true"), truth(1)},
	} {
		for i, want := range row(c.int, c.text, c.bool) {
			wantApply(t, row(number(3), c.v, text("z")), deltas(retype(1, i+1)), row(number(3), want, text("z")), api.OK)
		}
	}
}

// Each delta is of what the ones ahead of it have made.
func TestG2OneByOne(t *testing.T) {
	wantApply(t, row(truth(1)), deltas(retype(0, api.TypeInt), retype(0, api.TypeText)), row(text("1")), api.OK)
	wantApply(t, row(truth(1)), deltas(retype(0, api.TypeText), retype(0, api.TypeInt)), row(none), api.OK)
	wantApply(t, row(number(5)), deltas(retype(0, api.TypeBool), retype(0, api.TypeInt)), row(number(1)), api.OK)
	wantApply(t, row(number(5), text("3")), deltas(add(text("7")), retype(2, api.TypeInt), take(0), retype(0, api.TypeBool), add(none), retype(1, api.TypeText)), row(none, text("7"), none), api.OK)
	wantApply(t, row(text("wren"), number(2)), deltas(add(truth(0)), retype(1, api.TypeText)), row(text("wren"), text("2"), truth(0)), api.OK)
	wantApply(t, row(number(1), number(2), number(3), number(4), number(5)), deltas(take(0), add(number(6)), take(0), add(number(7))), row(number(3), number(4), number(5), number(6), number(7)), api.OK)
	wantApply(t, row(number(1)), deltas(take(0), add(text("x"))), row(text("x")), api.OK)
}

// Too many values tell ahead of deltas, these ahead of a value that is wrong.
func TestG2ErrorsInOrder(t *testing.T) {
	wrong := api.Value{Kind: 9}
	six := make([]api.Value, api.MaxColumns+1)
	wantApply(t, six, nil, nil, api.ErrMany)
	wantApply(t, six, deltas(api.Delta{}), nil, api.ErrMany)
	wantApply(t, six, deltas(take(0)), nil, api.ErrMany)
	six[2] = wrong
	wantApply(t, six, deltas(api.Delta{}), nil, api.ErrMany)
	wantApply(t, make([]api.Value, 1000), nil, nil, api.ErrMany)
	wantApply(t, six[:5], nil, nil, api.ErrKind)
	wantApply(t, six[:5], deltas(add(none)), nil, api.ErrMany)
	wantApply(t, row(wrong), deltas(take(1)), nil, api.ErrNone)
	wantApply(t, row(wrong), deltas(api.Delta{Kind: api.DeltaAdd, At: 1}), nil, api.ErrForm)
	wantApply(t, row(wrong), deltas(add(truth(2))), nil, api.ErrRange)
	wantApply(t, row(truth(2)), deltas(retype(0, 9)), nil, api.ErrKind)
	wantApply(t, row(truth(2)), deltas(add(none), api.Delta{}), nil, api.ErrKind)
	wantApply(t, nil, deltas(retype(0, api.TypeInt)), nil, api.ErrNone)
}

// A wrong value tells wherever it stands, though its column goes.
func TestG2WrongValues(t *testing.T) {
	for at := range api.MaxColumns {
		r := row(none, number(1), text("a"), truth(1), none)
		r[at] = truth(2)
		wantApply(t, r, nil, nil, api.ErrRange)
		wantApply(t, r, deltas(take(at)), nil, api.ErrRange)
		r[at] = api.Value{Kind: 4}
		wantApply(t, r, deltas(take(at)), nil, api.ErrKind)
		wantApply(t, r, deltas(retype(at, api.TypeInt)), nil, api.ErrKind)
	}
	wantApply(t, row(truth(2), api.Value{Kind: 4}), nil, nil, api.ErrRange)
	wantApply(t, row(api.Value{Kind: 4}, truth(2)), nil, nil, api.ErrKind)
}

func TestP1LongLists(t *testing.T) {
	var l []api.Delta
	for range 200000 {
		l = append(l, add(text("7")), retype(1, api.TypeInt), take(0))
	}
	wantCheck(t, 1, l, 1, api.OK)
	wantApply(t, row(text("a")), l, row(number(7)), api.OK)
	wantCheck(t, 1, append(l, take(1)), 0, api.ErrNone)
	wantApply(t, row(text("a")), append(l, take(1)), nil, api.ErrNone)
}

// What is handed in stays, and the room behind it.
func TestP2OnlyReads(t *testing.T) {
	all := row(number(1), text("2"), truth(1), text("behind"))
	steps := deltas(add(text("x")), take(0), retype(0, api.TypeInt), take(3), add(none))
	wasRow, wasSteps := slices.Clone(all), slices.Clone(steps)
	wantApply(t, all[:3], steps[:3], row(number(2), truth(1), text("x")), api.OK)
	wantApply(t, all[:3], steps[:1], row(number(1), text("2"), truth(1), text("x")), api.OK)
	wantApply(t, all[:3], steps[1:2], row(text("2"), truth(1)), api.OK)
	wantApply(t, all[:0], steps[:1], row(text("x")), api.OK)
	wantCheck(t, 3, steps[:3], 3, api.OK)
	if !slices.Equal(all, wasRow) || !slices.Equal(steps, wasSteps) {
		t.Errorf("%v was %v, %v was %v", all, wasRow, steps, wasSteps)
	}
}

// What comes is the caller's: to change it changes nothing that was handed in, nor what comes next.
func TestP2AppliedIsTheCallers(t *testing.T) {
	r := row(number(1), text("2"))
	for _, l := range [][]api.Delta{nil, deltas(add(truth(1))), deltas(take(0)), deltas(take(1)), deltas(retype(0, api.TypeText)), deltas(take(1), add(none))} {
		got, _ := Apply(r, l)
		was := slices.Clone(got)
		for i := range got {
			got[i] = text("changed")
		}
		_ = append(got, text("more"))
		if !slices.Equal(r, row(number(1), text("2"))) {
			t.Fatalf("behind %v the row is %v", l, r)
		}
		wantApply(t, r, l, was, api.OK)
	}
}
