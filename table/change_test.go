package table

import (
	"math"
	"slices"
	"testing"

	"overhaul/api"
)

func TestH2Read(t *testing.T) {
	numbers, rows := someRows()
	wantRead(t, some(), numbers, rows)
	x := some()
	x.Rows, x.Indexes = nil, nil
	wantRead(t, x, nil, nil)
	wantRead(t, full(), numbersFrom(999970, api.MaxRows), slices.Repeat([][]api.Value{make([]api.Value, 5)}, api.MaxRows))
}

func numbersFrom(first, many int) []int {
	var l []int
	for i := range many {
		l = append(l, first+i)
	}
	return l
}

// The new row is in each index that had all rows, and in no other.
func TestH2Insert(t *testing.T) {
	want := some()
	want.Rows = append(want.Rows, api.Stored{Number: 10, Version: 4, Bytes: bytes(number(3), text("r"), none)})
	want.Next = 11
	want.Indexes[1].Built = 11
	want.Indexes[1].Entries = slices.Insert(want.Indexes[1].Entries, 2, api.Entry{Key: "2r", Number: 10})
	got, e := Insert(some(), list(number(3), text("r"), none))
	wantTable(t, got, e, want)

	next := api.Stored{Number: 11, Version: 4, Bytes: bytes(none, text("r"), truth(0))}
	want.Rows = append(want.Rows, next)
	want.Next = 12
	want.Indexes[1].Built = 12
	want.Indexes[1].Entries = slices.Insert(want.Indexes[1].Entries, 3, api.Entry{Key: "2r", Number: 11})
	got, e = Insert(got, list(none, text("r"), truth(0)))
	wantTable(t, got, e, want)
}

// In a table without rows each index has all of them, if it begins at Next.
func TestH2InsertTheFirstRow(t *testing.T) {
	x := api.Table{Name: "t", Columns: []api.Column{{Name: "a", Type: api.TypeBool}}, Next: 1, Indexes: []api.Index{{Name: "i", Built: 1}, {Name: "j", Built: 1}}}
	want := x
	want.Rows = []api.Stored{{Number: 1, Bytes: bytes(truth(1))}}
	want.Next = 2
	entries := []api.Entry{{Key: "31", Number: 1}}
	want.Indexes = []api.Index{{Name: "i", Built: 2, Entries: entries}, {Name: "j", Built: 2, Entries: entries}}
	got, e := Insert(x, list(truth(1)))
	wantTable(t, got, e, want)
}

// An index that lacks a row far behind gets none ahead of it, though all others are in it.
func TestH2InsertIntoAnIndexThatIsNearlyBuilt(t *testing.T) {
	x := some()
	x.Indexes[1].Built = 9
	want := some()
	want.Indexes[1].Built = 9
	want.Rows = append(want.Rows, api.Stored{Number: 10, Version: 4, Bytes: bytes(none, none, none)})
	want.Next = 11
	got, e := Insert(x, list(none, none, none))
	wantTable(t, got, e, want)
}

func TestH2InsertWrong(t *testing.T) {
	wrong := api.Value{Kind: 4}
	for _, c := range []struct {
		r     []api.Value
		errno api.Errno
	}{
		{nil, api.ErrForm},
		{list(number(1), text("a")), api.ErrForm},
		{list(number(1), text("a"), truth(1), none), api.ErrForm},
		{make([]api.Value, 100), api.ErrForm},
		{list(wrong, truth(2)), api.ErrForm},
		{list(wrong, none, none), api.ErrKind},
		{list(none, none, truth(2)), api.ErrRange},
		{list(none, truth(2), wrong), api.ErrRange},
		{list(none, wrong, truth(2)), api.ErrKind},
		{list(text("a"), text("a"), truth(1)), api.ErrKind},
		{list(number(1), text("a"), number(1)), api.ErrKind},
		{list(text("a"), text("a"), truth(2)), api.ErrRange},
		{list(text("1"), none, none), api.ErrKind},
	} {
		got, e := Insert(some(), c.r)
		wantError(t, c.r, got, e, c.errno)
	}
}

// Rows or numbers that are at their end tell behind all else.
func TestH2InsertMany(t *testing.T) {
	rows := full()
	rows.Next = 999999
	for i := range rows.Rows {
		rows.Rows[i].Number = i + 1
	}
	last := full()
	last.Rows = nil
	five := make([]api.Value, api.MaxColumns)
	for _, x := range []api.Table{rows, last} {
		got, e := Insert(x, five)
		wantError(t, "many", got, e, api.ErrMany)
		got, e = Insert(x, five[:4])
		wantError(t, "many, too few values", got, e, api.ErrForm)
		got, e = Insert(x, list(none, none, none, none, truth(2)))
		wantError(t, "many, a wrong value", got, e, api.ErrRange)
		got, e = Insert(x, list(none, none, none, none, number(1)))
		wantError(t, "many, one of another kind", got, e, api.ErrKind)
	}
	rows.Rows = rows.Rows[:29]
	got, e := Insert(rows, five)
	if e != api.OK || len(got.Rows) != 30 || got.Rows[29].Number != 999999 || got.Next != 1000000 {
		t.Errorf("it is %+v, %d", got, e)
	}
	wantCheck(t, got, api.OK)
	got, e = Insert(got, five)
	wantError(t, "30 rows, and Next 1000000", got, e, api.ErrMany)
}

func TestH2Delete(t *testing.T) {
	for _, l := range [][]int{nil, {}, {3}, {0, -1, 9, 10, 11, math.MinInt, math.MaxInt}} {
		got, e := Delete(some(), l)
		wantTable(t, got, e, some())
	}
	want := some()
	want.Rows = slices.Delete(want.Rows, 2, 3)
	want.Indexes[0].Entries = slices.Delete(want.Indexes[0].Entries, 3, 4)
	want.Indexes[1].Entries = slices.Delete(want.Indexes[1].Entries, 4, 5)
	for _, l := range [][]int{{4}, {4, 4}, {6, 4, 3}, slices.Repeat([]int{4}, 100000)} {
		got, e := Delete(some(), l)
		wantTable(t, got, e, want)
	}
	want = some()
	want.Rows = []api.Stored{want.Rows[1], want.Rows[5]}
	want.Indexes[0].Entries = []api.Entry{{Key: "0", Number: 2}}
	want.Indexes[1].Entries = []api.Entry{{Key: "2x", Number: 2}, {Key: "2x", Number: 8}}
	for _, l := range [][]int{{1, 4, 5, 7}, {7, 5, 4, 1}, {5, 1, 9, 7, 4, 1}} {
		got, e := Delete(some(), l)
		wantTable(t, got, e, want)
	}
	// Numbers of rows that went come to no other row.
	want = some()
	want.Rows, want.Indexes[0].Entries, want.Indexes[1].Entries = nil, nil, nil
	got, e := Delete(some(), numbersFrom(1, 9))
	wantTable(t, got, e, want)
	got, e = Insert(got, list(none, none, none))
	want.Rows, want.Next = []api.Stored{{Number: 10, Version: 4, Bytes: bytes(none, none, none)}}, 11
	want.Indexes[1].Built, want.Indexes[1].Entries = 11, []api.Entry{{Key: "0", Number: 10}}
	wantTable(t, got, e, want)
}

func TestH2Update(t *testing.T) {
	want := some()
	want.Rows[0] = api.Stored{Number: 1, Version: 4, Bytes: bytes(none, text("x"), truth(1))}
	want.Rows[3] = api.Stored{Number: 5, Version: 4, Bytes: bytes(number(2), text("q"), truth(1))}
	want.Rows[5] = api.Stored{Number: 8, Version: 4, Bytes: bytes(number(8), text("x"), truth(0))}
	want.Indexes[0].Entries = []api.Entry{{Key: "0", Number: 1}, {Key: "0", Number: 2}, {Key: "0", Number: 7}, {Key: "11000000002", Number: 5}, {Key: "11000000006", Number: 4}}
	got, e := Update(some(), []int{1, 5, 8}, 0, list(none, number(2), number(8)))
	wantTable(t, got, e, want)

	want = some()
	want.Rows[1] = api.Stored{Number: 2, Version: 4, Bytes: bytes(none, text("q"), truth(1))}
	want.Rows[4] = api.Stored{Number: 7, Version: 4, Bytes: bytes(none, text("z"), truth(1))}
	want.Indexes[1].Entries = []api.Entry{{Key: "2q", Number: 2}, {Key: "2q", Number: 5}, {Key: "2x", Number: 1}, {Key: "2x", Number: 4}, {Key: "2x", Number: 8}, {Key: "2z", Number: 7}}
	got, e = Update(some(), []int{2, 7}, 1, list(text("q"), text("z")))
	wantTable(t, got, e, want)

	want = some()
	want.Rows[2] = api.Stored{Number: 4, Version: 4, Bytes: bytes(number(6), text("x"), truth(0))}
	got, e = Update(some(), []int{4}, 2, list(truth(0)))
	wantTable(t, got, e, want)
}

// A row that gets the value that it had is of the newest version then all the same; without numbers all stays.
func TestH2UpdateToTheSame(t *testing.T) {
	want := some()
	want.Rows[0] = api.Stored{Number: 1, Version: 4, Bytes: bytes(number(5), text("x"), truth(1))}
	got, e := Update(some(), []int{1}, 0, list(number(5)))
	wantTable(t, got, e, want)
	for at := range 3 {
		got, e = Update(some(), nil, at, nil)
		wantTable(t, got, e, some())
		got, e = Update(some(), []int{}, at, []api.Value{})
		wantTable(t, got, e, some())
	}
}

func TestH2UpdateWrong(t *testing.T) {
	wrong := api.Value{Kind: 4}
	for _, c := range []struct {
		numbers []int
		at      int
		l       []api.Value
		errno   api.Errno
	}{
		{nil, -1, nil, api.ErrNone},
		{nil, 3, nil, api.ErrNone},
		{nil, math.MaxInt, nil, api.ErrNone},
		{nil, math.MinInt, nil, api.ErrNone},
		{[]int{2, 1}, 3, list(wrong), api.ErrNone},
		{[]int{1}, 0, nil, api.ErrForm},
		{nil, 0, list(none), api.ErrForm},
		{[]int{1, 2}, 0, list(none), api.ErrForm},
		{[]int{1}, 0, list(none, none), api.ErrForm},
		{[]int{2, 1}, 0, list(none, none), api.ErrForm},
		{[]int{1, 1}, 0, list(none, none), api.ErrForm},
		{[]int{1, 4, 2}, 0, list(none, none, none), api.ErrForm},
		{[]int{9, 3}, 0, list(wrong, none), api.ErrForm},
		{[]int{3}, 0, list(none, none), api.ErrForm},
		{[]int{3}, 0, list(none), api.ErrNone},
		{[]int{0, 1}, 0, list(none, none), api.ErrNone},
		{[]int{1, 2, 9}, 0, list(none, none, none), api.ErrNone},
		{[]int{math.MinInt, 1, math.MaxInt}, 0, list(none, none, none), api.ErrNone},
		{[]int{1, 3}, 0, list(wrong, truth(2)), api.ErrNone},
		{[]int{1, 3}, 0, list(text("a"), none), api.ErrNone},
		{[]int{1}, 0, list(truth(2)), api.ErrRange},
		{[]int{1}, 0, list(wrong), api.ErrKind},
		{[]int{1, 2}, 0, list(text("a"), truth(2)), api.ErrRange},
		{[]int{1, 2}, 0, list(truth(2), wrong), api.ErrRange},
		{[]int{1, 2}, 0, list(wrong, truth(2)), api.ErrKind},
		{[]int{1}, 0, list(text("5")), api.ErrKind},
		{[]int{1, 2}, 0, list(number(1), truth(1)), api.ErrKind},
		{[]int{1}, 1, list(number(5)), api.ErrKind},
		{[]int{1}, 2, list(number(1)), api.ErrKind},
		{numbersFrom(1, 100000), 0, make([]api.Value, 100000), api.ErrNone},
	} {
		got, e := Update(some(), c.numbers, c.at, c.l)
		wantError(t, []any{c.at, c.errno}, got, e, c.errno)
	}
}

// What is wrong with a table tells first, whatever else is.
func TestH2AllTellCheckFirst(t *testing.T) {
	x := some()
	x.Rows[5].Version = 5
	numbers, rows, e := Read(x)
	if len(numbers) != 0 || len(rows) != 0 || e != api.ErrRange {
		t.Errorf("Read = %v, %v, %d", numbers, rows, e)
	}
	got, e := Insert(x, nil)
	wantError(t, "Insert", got, e, api.ErrRange)
	got, e = Insert(x, list(none, none, none))
	wantError(t, "Insert", got, e, api.ErrRange)
	got, e = Delete(x, []int{8})
	wantError(t, "Delete", got, e, api.ErrRange)
	got, e = Update(x, []int{1}, 0, list(none))
	wantError(t, "Update", got, e, api.ErrRange)
	got, e = Update(x, []int{1, 1}, 9, list(truth(2)))
	wantError(t, "Update", got, e, api.ErrRange)
	got, e = Alter(x, api.Delta{}, "")
	wantError(t, "Alter", got, e, api.ErrRange)
	got, e = Alter(x, api.Delta{Kind: api.DeltaTake}, "")
	wantError(t, "Alter", got, e, api.ErrRange)
}
