package delta

import (
	"math/rand"
	"slices"
	"strconv"
	"testing"

	"overhaul/api"
)

func drawnValue(r *rand.Rand) api.Value {
	if r.Intn(40) == 0 {
		return row(truth(2), api.Value{Kind: 4}, api.Value{N: 1}, number(api.MaxInt+1), text("'"))[r.Intn(5)]
	}
	return row(none, number(0), number(7), number(-7), text(""), text("7"), text("-0"), text("true"), text("x"), truth(0), truth(1))[r.Intn(11)]
}

func drawnDelta(r *rand.Rand) api.Delta {
	d := api.Delta{Kind: 1 + r.Intn(3)}
	switch d.Kind {
	case api.DeltaAdd:
		d.Value = drawnValue(r)
	case api.DeltaTake:
		d.At = r.Intn(4)
	case api.DeltaRetype:
		d.At, d.Type = r.Intn(4), 1+r.Intn(3)
	}
	if r.Intn(30) == 0 {
		d.Kind = r.Intn(6) - 1
	}
	if r.Intn(30) == 0 {
		d.At = r.Intn(9) - 2
	}
	if r.Intn(30) == 0 {
		d.Type = r.Intn(6) - 1
	}
	if r.Intn(30) == 0 {
		d.Value = drawnValue(r)
	}
	return d
}

func drawnDeltas(r *rand.Rand, most int) []api.Delta {
	var l []api.Delta
	for range r.Intn(most + 1) {
		l = append(l, drawnDelta(r))
	}
	return l
}

func drawnRow(r *rand.Rand) []api.Value {
	var l []api.Value
	for range r.Intn(api.MaxColumns + 1) {
		l = append(l, drawnValue(r))
	}
	return l
}

// told: what is wrong with a value, by its chapter's words.
func told(v api.Value) api.Errno {
	switch {
	case v.Kind < 0 || v.Kind > 3:
		return api.ErrKind
	case v.Kind == 0 && v != none,
		v.Kind == api.TypeInt && (v.N > api.MaxInt || v.N < -api.MaxInt || v.S != ""),
		v.Kind == api.TypeText && (v.N != 0 || len(v.S) > api.MaxQuoted || v.S == "'"),
		v.Kind == api.TypeBool && (v.N != 0 && v.N != 1 || v.S != ""):
		return api.ErrRange
	}
	return api.OK
}

// toldOf one delta, for rows of so many values: its errors in the order in which they are named.
func toldOf(width int, d api.Delta) api.Errno {
	isAdd, isTake, isRetype := d.Kind == api.DeltaAdd, d.Kind == api.DeltaTake, d.Kind == api.DeltaRetype
	for _, c := range []struct {
		holds bool
		errno api.Errno
	}{
		{!isAdd && !isTake && !isRetype, api.ErrKind},
		{isAdd && d.At != 0, api.ErrForm},
		{!isRetype && d.Type != 0, api.ErrForm},
		{!isAdd && d.Value != none, api.ErrForm},
		{told(d.Value) != api.OK, told(d.Value)},
		{isAdd && width+1 > api.MaxColumns, api.ErrMany},
		{!isAdd && (d.At < 0 || d.At > width-1), api.ErrNone},
		{isRetype && (d.Type < 1 || d.Type > 3), api.ErrKind},
	} {
		if c.holds {
			return c.errno
		}
	}
	return api.OK
}

// cast of a right value, by its chapter's words.
func cast(v api.Value, to int) api.Value {
	switch {
	case v.Kind == 0 || v.Kind == to:
		return v
	case to == api.TypeText && v.Kind == api.TypeInt:
		return text(strconv.Itoa(v.N))
	case to == api.TypeText:
		return text([]string{"false", "true"}[v.N])
	case to == api.TypeBool && v.Kind == api.TypeInt:
		return truth(min(1, v.N*v.N))
	case to == api.TypeBool && v.S == "true":
		return truth(1)
	case to == api.TypeBool && v.S == "false":
		return truth(0)
	case to == api.TypeInt && v.Kind == api.TypeBool:
		return number(v.N)
	}
	// All ints that are drawn, or come of a bool, are so near to 0.
	for n := -9; n <= 9 && to == api.TypeInt; n++ {
		if strconv.Itoa(n) == v.S {
			return number(n)
		}
	}
	return none
}

// behind deltas: a row, or what is wrong, told another way: each delta makes a row of its own.
func behind(r []api.Value, l []api.Delta) ([]api.Value, api.Errno) {
	width := len(r)
	for _, d := range l {
		if e := toldOf(width, d); e != api.OK {
			return nil, e
		}
		width += map[int]int{api.DeltaAdd: 1, api.DeltaTake: -1}[d.Kind]
	}
	for _, v := range r {
		if e := told(v); e != api.OK {
			return nil, e
		}
	}
	for _, d := range l {
		var next []api.Value
		for i, v := range r {
			switch {
			case d.Kind == api.DeltaTake && i == d.At:
			case d.Kind == api.DeltaRetype && i == d.At:
				next = append(next, cast(v, d.Type))
			default:
				next = append(next, v)
			}
		}
		if d.Kind == api.DeltaAdd {
			next = append(next, d.Value)
		}
		r = next
	}
	return r, api.OK
}

func TestG2AgainstAnotherWayOfTelling(t *testing.T) {
	r := rand.New(rand.NewSource(1))
	seen := map[api.Errno]int{}
	for range 100000 {
		x, l := drawnRow(r), drawnDeltas(r, 8)
		want, e := behind(x, l)
		wantApply(t, x, l, want, e)
		seen[e]++
		if e == api.OK {
			wantCheck(t, len(x), l, len(want), api.OK)
		}
	}
	for _, e := range []api.Errno{api.OK, api.ErrForm, api.ErrMany, api.ErrRange, api.ErrNone, api.ErrKind} {
		if seen[e] < 100 {
			t.Errorf("too little was tried: %v", seen)
		}
	}
}

// Whatever the two parts are: the width, the row or the error of all is that of the second part behind the first one.
func TestG3DeltasInTwoParts(t *testing.T) {
	r := rand.New(rand.NewSource(2))
	rows := 0
	for range 30000 {
		x, l := drawnRow(r), drawnDeltas(r, 8)
		all, e := Apply(x, l)
		width, f := Check(len(x), l)
		for k := range len(l) + 1 {
			mid, first := Apply(x, l[:k])
			midWidth, firstWidth := Check(len(x), l[:k])
			if firstWidth != api.OK {
				wantCheck(t, len(x), l, 0, firstWidth)
			} else {
				wantCheck(t, midWidth, l[k:], width, f)
			}
			if first == api.OK {
				wantApply(t, mid, l[k:], all, e)
				rows++
			} else if firstWidth == api.OK && f == api.OK {
				wantApply(t, x, l, nil, first)
			}
		}
		if e != api.OK && len(all) != 0 {
			t.Fatalf("Apply(%v, %v) = %v, %d", x, l, all, e)
		}
	}
	if rows < 10000 {
		t.Errorf("too little was tried: %d rows", rows)
	}
}

// What is behind has as many values as Check says, all of them right; of what is retyped each is of its kind, or nothing.
func TestG3WhatComesIsRight(t *testing.T) {
	r := rand.New(rand.NewSource(3))
	for range 30000 {
		x, l := drawnRow(r), drawnDeltas(r, 6)
		got, e := Apply(x, l)
		if e != api.OK {
			continue
		}
		if slices.ContainsFunc(got, func(v api.Value) bool { return told(v) != api.OK }) {
			t.Fatalf("Apply(%v, %v) = %v", x, l, got)
		}
		if len(l) > 0 && l[len(l)-1].Kind == api.DeltaRetype {
			d := l[len(l)-1]
			if v := got[d.At]; v.Kind != 0 && v.Kind != d.Type {
				t.Fatalf("Apply(%v, %v) = %v", x, l, got)
			}
		}
	}
}
