package table

import (
	"math"
	"math/rand"
	"slices"
	"testing"

	"overhaul/api"
)

// deep copy of a table.
func deep(x api.Table) api.Table {
	x.Columns, x.Deltas, x.Rows, x.Indexes = slices.Clone(x.Columns), slices.Clone(x.Deltas), slices.Clone(x.Rows), slices.Clone(x.Indexes)
	for i := range x.Indexes {
		x.Indexes[i].Entries = slices.Clone(x.Indexes[i].Entries)
	}
	return x
}

// roomy: a list with room behind it, in which something stands.
func roomy[T any](l []T, behind T) []T {
	return append(slices.Clone(l), behind, behind, behind)[:len(l)]
}

func isAsItWas[T comparable](l []T, behind T) bool {
	return slices.Equal(l[len(l):len(l)+3], []T{behind, behind, behind})
}

// What stands in the room behind lists.
var (
	someColumn = api.Column{Name: "behind", Type: 1}
	someDelta  = api.Delta{Kind: 3, Type: 2}
	someStored = api.Stored{Number: 99, Bytes: "behind"}
	someEntry  = api.Entry{Key: "behind", Number: 99}
)

func withRoom(x api.Table) api.Table {
	x.Columns, x.Deltas, x.Rows = roomy(x.Columns, someColumn), roomy(x.Deltas, someDelta), roomy(x.Rows, someStored)
	x.Indexes = roomy(x.Indexes, api.Index{Name: "behind"})
	for i := range x.Indexes {
		x.Indexes[i].Entries = roomy(x.Indexes[i].Entries, someEntry)
	}
	return x
}

func roomIsAsItWas(x api.Table) bool {
	for _, i := range x.Indexes {
		if !isAsItWas(i.Entries, someEntry) {
			return false
		}
	}
	for _, i := range x.Indexes[len(x.Indexes) : len(x.Indexes)+3] {
		if i.Name != "behind" || i.At != 0 || i.Built != 0 || len(i.Entries) != 0 {
			return false
		}
	}
	return isAsItWas(x.Columns, someColumn) && isAsItWas(x.Deltas, someDelta) && isAsItWas(x.Rows, someStored)
}

// spoil all lists of a table, and the room behind them.
func spoil(x api.Table) {
	for i, index := range x.Indexes {
		fill(index.Entries, api.Entry{Key: "spoilt"})
		x.Indexes[i] = api.Index{Name: "spoilt"}
	}
	fill(x.Columns, api.Column{Name: "spoilt"})
	fill(x.Deltas, api.Delta{Kind: 9})
	fill(x.Rows, api.Stored{Bytes: "spoilt"})
	fill(x.Indexes, api.Index{Name: "spoilt"})
}

func fill[T any](l []T, with T) {
	l = l[:cap(l)]
	for i := range l {
		l[i] = with
	}
}

// calls that make a table of another one.
func calls(r *rand.Rand, m *model) []func(api.Table) (api.Table, api.Errno) {
	l, numbers, at := m.drawnRow(r), m.drawnNumbers(r), r.Intn(len(m.columns))
	d, name := m.drawnDelta(r)
	var values []api.Value
	for range numbers {
		values = append(values, drawn(r, m.columns[at].kind))
	}
	return []func(api.Table) (api.Table, api.Errno){
		func(x api.Table) (api.Table, api.Errno) { return Insert(x, l) },
		func(x api.Table) (api.Table, api.Errno) { return Delete(x, numbers) },
		func(x api.Table) (api.Table, api.Errno) { return Delete(x, nil) },
		func(x api.Table) (api.Table, api.Errno) { return Update(x, numbers, at, values) },
		func(x api.Table) (api.Table, api.Errno) { return Update(x, nil, at, nil) },
		func(x api.Table) (api.Table, api.Errno) { return Alter(x, d, name) },
	}
}

// What is handed in stays as it is, the room behind it too, even when the answer is spoilt; and the same comes again.
func TestP2TablesAreOnlyRead(t *testing.T) {
	r := rand.New(rand.NewSource(11))
	for range 600 {
		m, was := drawnTable(r)
		x := withRoom(was)
		for i, call := range calls(r, m) {
			got, e := call(x)
			again := deep(got)
			spoil(got)
			if !same(x, was) || !roomIsAsItWas(x) {
				t.Fatalf("%d: %+v was %+v", i, x, was)
			}
			if next, f := call(x); !same(next, again) || e != f {
				t.Fatalf("%d: it is %+v, %d, and was %+v, %d", i, next, f, again, e)
			}
		}
	}
}

// No two lists of an answer share memory: what is written behind one is seen in no other.
func TestP2NoTwoListsShare(t *testing.T) {
	r := rand.New(rand.NewSource(12))
	for range 600 {
		m, x := drawnTable(r)
		for _, call := range calls(r, m) {
			got, _ := call(x)
			was := deep(got)
			for i := range got.Indexes {
				l := got.Indexes[i].Entries
				fill(l[len(l):], someEntry)
			}
			fill(got.Indexes[len(got.Indexes):], api.Index{Name: "behind"})
			fill(got.Columns[len(got.Columns):], someColumn)
			fill(got.Deltas[len(got.Deltas):], someDelta)
			fill(got.Rows[len(got.Rows):], someStored)
			if !same(got, was) {
				t.Fatalf("it is %+v, and was %+v", got, was)
			}
			for i := range got.Indexes {
				fill(got.Indexes[i].Entries, someEntry)
				was.Indexes[i].Entries = got.Indexes[i].Entries
				if !same(got, was) {
					t.Fatalf("it is %+v, and was %+v", got, was)
				}
			}
		}
	}
}

// Rows that were read are the caller's: to change them changes no other row, nor the table, nor what is read next.
func TestP2RowsThatAreRead(t *testing.T) {
	r := rand.New(rand.NewSource(13))
	for range 600 {
		m, was := drawnTable(r)
		x := withRoom(was)
		numbers, rows, e := Read(x)
		if e != api.OK {
			t.Fatal(e)
		}
		_, want := m.read()
		for i := range rows {
			fill(rows[i], text("spoilt"))
			if !sameRows(rows[i+1:], want[i+1:]) {
				t.Fatalf("%v was %v", rows[i+1:], want[i+1:])
			}
		}
		fill(numbers, -1)
		fill(rows, nil)
		if !same(x, was) || !roomIsAsItWas(x) {
			t.Fatalf("%+v was %+v", x, was)
		}
		wantNumbers, _ := m.read()
		wantRead(t, x, wantNumbers, want)
		wantCheck(t, x, api.OK)
	}
}

// Rows, values and numbers that come in are only read, and not kept.
func TestP2WhatComesInIsNotKept(t *testing.T) {
	l, numbers, values := roomy(list(number(3), text("r"), none), text("behind")), roomy([]int{8, 1}, 5), roomy(list(none, number(2)), text("behind"))
	inserted, e := Insert(some(), l)
	if e != api.OK || !slices.Equal(l, list(number(3), text("r"), none)) || !isAsItWas(l, text("behind")) {
		t.Errorf("%v, %d", l, e)
	}
	deleted, e := Delete(some(), numbers)
	if e != api.OK || !slices.Equal(numbers, []int{8, 1}) || !isAsItWas(numbers, 5) {
		t.Errorf("%v, %d", numbers, e)
	}
	slices.Reverse(numbers)
	updated, e := Update(some(), numbers, 0, values)
	if e != api.OK || !slices.Equal(numbers, []int{1, 8}) || !isAsItWas(numbers, 5) || !slices.Equal(values, list(none, number(2))) || !isAsItWas(values, text("behind")) {
		t.Errorf("%v, %v, %d", numbers, values, e)
	}
	was := []api.Table{deep(inserted), deep(deleted), deep(updated)}
	fill(l, text("spoilt"))
	fill(numbers, 2)
	fill(values, text("spoilt"))
	for i, x := range []api.Table{inserted, deleted, updated} {
		if !same(x, was[i]) {
			t.Errorf("it is %+v, and was %+v", x, was[i])
		}
		wantCheck(t, x, api.OK)
	}
}

// junk: a table of which anything may be wrong.
func junk(r *rand.Rand, x api.Table) api.Table {
	x = deep(x)
	anyInt := func() int {
		return []int{math.MinInt, -1, 0, 1, 2, 3, 4, 5, 6, 7, 30, 1000000, math.MaxInt}[r.Intn(13)]
	}
	anyText := func() string {
		return []string{"", "a", "b", "t", "to", "\x00", "\x01\x00", "\x02\x00\x01", "\xff\xff", "11000000001"}[r.Intn(10)]
	}
	anyValue := func() api.Value { return api.Value{Kind: anyInt(), N: anyInt(), S: anyText()} }
	for range 1 + r.Intn(3) {
		switch r.Intn(9) {
		case 0:
			x.Name = anyText()
		case 1:
			x.Columns = append(x.Columns, api.Column{Name: anyText(), Type: anyInt()})
		case 2:
			x.Columns = x.Columns[:r.Intn(len(x.Columns)+1)]
		case 3:
			x.Next = anyInt()
		case 4:
			x.Deltas = append(x.Deltas, api.Delta{Kind: 1 + r.Intn(3), At: r.Intn(3)}, api.Delta{Kind: anyInt(), At: anyInt(), Type: anyInt(), Value: anyValue()})[:r.Intn(len(x.Deltas)+3)]
		case 5:
			x.Rows = append(x.Rows, api.Stored{Number: anyInt(), Version: anyInt(), Bytes: anyText()})
		case 6:
			for i := range x.Rows {
				if r.Intn(4) == 0 {
					x.Rows[i].Version = anyInt()
				}
				if r.Intn(4) == 0 {
					x.Rows[i].Bytes = anyText()
				}
			}
		case 7:
			x.Indexes = append(x.Indexes, api.Index{Name: anyText(), At: anyInt(), Built: anyInt()})
		case 8:
			for i := range x.Indexes {
				x.Indexes[i].At, x.Indexes[i].Entries = anyInt(), append(x.Indexes[i].Entries, api.Entry{Key: anyText(), Number: anyInt()})
			}
		}
	}
	return x
}

// Every call ends, whatever it is handed; what is wrong with a table, all tell, and nothing else; what comes of a right one is right.
func TestP1Junk(t *testing.T) {
	r := rand.New(rand.NewSource(14))
	seen := map[api.Errno]int{}
	for range 6000 {
		m, x := drawnTable(r)
		x = junk(r, x)
		e := Check(x)
		seen[e]++
		if numbers, rows, f := Read(x); f != e || f != api.OK && len(numbers)+len(rows) > 0 {
			t.Fatalf("Read = %v, %v, %d; want %d", numbers, rows, f, e)
		}
		for _, call := range calls(r, m) {
			got, f := call(x)
			if e != api.OK && f != e || f != api.OK && !same(got, api.Table{}) {
				t.Fatalf("it is %+v, %d; want %d", got, f, e)
			}
			if f == api.OK {
				wantCheck(t, got, api.OK)
			}
		}
	}
	if len(seen) < 8 || seen[api.OK] < 50 {
		t.Errorf("too little was tried: %v", seen)
	}
}
