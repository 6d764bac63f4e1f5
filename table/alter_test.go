package table

import (
	"math"
	"slices"
	"testing"

	"overhaul/api"
)

func add(kind int, v api.Value) api.Delta {
	return api.Delta{Kind: api.DeltaAdd, Type: kind, Value: v}
}
func take(at int) api.Delta         { return api.Delta{Kind: api.DeltaTake, At: at} }
func retype(at, kind int) api.Delta { return api.Delta{Kind: api.DeltaRetype, At: at, Type: kind} }

func wantAlterError(t *testing.T, x api.Table, d api.Delta, name string, errno api.Errno) {
	t.Helper()
	got, e := Alter(x, d, name)
	wantError(t, []any{d, name}, got, e, errno)
}

// A new column comes last, in all rows with its value; what is kept of it as a delta has no Type.
func TestH3Add(t *testing.T) {
	for _, c := range []struct {
		kind int
		v    api.Value
	}{
		{api.TypeInt, number(-1)}, {api.TypeInt, none}, {api.TypeText, text("")}, {api.TypeText, none}, {api.TypeBool, truth(0)}, {api.TypeBool, none},
	} {
		want := some()
		want.Columns = append(want.Columns, api.Column{Name: "d", Type: c.kind})
		want.Deltas = append(want.Deltas, api.Delta{Kind: api.DeltaAdd, Value: c.v})
		got, e := Alter(some(), add(c.kind, c.v), "d")
		wantTable(t, got, e, want)
		numbers, rows := someRows()
		for i := range rows {
			rows[i] = append(rows[i], c.v)
		}
		wantRead(t, got, numbers, rows)
	}
}

// A column goes, and indexes on it; those behind it follow their columns.
func TestH3Take(t *testing.T) {
	for at := range 3 {
		x := some()
		x.Indexes = append(x.Indexes, api.Index{Name: "l", At: 0, Built: 2, Entries: []api.Entry{{Key: "11000000005", Number: 1}}})
		want := x
		want.Columns = slices.Concat(x.Columns[:at], x.Columns[at+1:])
		want.Deltas = append(slices.Clone(x.Deltas), take(at))
		want.Indexes = nil
		for _, i := range x.Indexes {
			if i.At == at {
				continue
			}
			if i.At > at {
				i.At--
			}
			want.Indexes = append(want.Indexes, i)
		}
		got, e := Alter(x, take(at), "")
		wantTable(t, got, e, want)
		numbers, rows := someRows()
		for i := range rows {
			rows[i] = slices.Delete(rows[i], at, at+1)
		}
		wantRead(t, got, numbers, rows)
	}
}

func TestH3TakeTheFirstOfTwo(t *testing.T) {
	got, e := Alter(some(), take(0), "")
	if e != api.OK {
		t.Fatal(e)
	}
	want := []api.Index{
		{Name: "j", At: 0, Built: 10, Entries: some().Indexes[1].Entries},
		{Name: "k", At: 1, Built: 1},
	}
	if x := (api.Table{Indexes: got.Indexes}); !same(x, api.Table{Indexes: want}) {
		t.Errorf("%+v", got.Indexes)
	}
}

// A column of another kind: each value is cast; an index on it is at its beginning again, others stay.
func TestH3Retype(t *testing.T) {
	want := some()
	want.Columns[0].Type = api.TypeText
	want.Deltas = append(want.Deltas, retype(0, api.TypeText))
	want.Indexes[0].Built, want.Indexes[0].Entries = 1, nil
	got, e := Alter(some(), retype(0, api.TypeText), "")
	wantTable(t, got, e, want)
	numbers, rows := someRows()
	for i, v := range list(text("5"), none, text("6"), text("6"), none, text("-9")) {
		rows[i][0] = v
	}
	wantRead(t, got, numbers, rows)

	want = some()
	want.Columns[1].Type = api.TypeBool
	want.Deltas = append(want.Deltas, retype(1, api.TypeBool))
	want.Indexes[1].Built, want.Indexes[1].Entries = 1, nil
	got, e = Alter(some(), retype(1, api.TypeBool), "")
	wantTable(t, got, e, want)
	numbers, rows = someRows()
	for i := range rows {
		rows[i][1] = none
	}
	wantRead(t, got, numbers, rows)
}

// Of the kind that it has, too: its index is at its beginning again.
func TestH3RetypeToTheSame(t *testing.T) {
	want := some()
	want.Deltas = append(want.Deltas, retype(0, api.TypeInt))
	want.Indexes[0].Built, want.Indexes[0].Entries = 1, nil
	got, e := Alter(some(), retype(0, api.TypeInt), "")
	wantTable(t, got, e, want)
	numbers, rows := someRows()
	wantRead(t, got, numbers, rows)
}

// All indexes on a column, not the first alone.
func TestH3AllIndexesOnAColumn(t *testing.T) {
	x := some()
	x.Indexes[2] = api.Index{Name: "k", At: 0, Built: 2, Entries: []api.Entry{{Key: "11000000005", Number: 1}}}
	got, e := Alter(x, retype(0, api.TypeBool), "")
	if e != api.OK || got.Indexes[0].Built != 1 || got.Indexes[2].Built != 1 || len(got.Indexes[0].Entries)+len(got.Indexes[2].Entries) != 0 || got.Indexes[1].Built != 10 {
		t.Errorf("%+v, %d", got, e)
	}
	got, e = Alter(x, take(0), "")
	if e != api.OK || len(got.Indexes) != 1 || got.Indexes[0].Name != "j" || got.Indexes[0].At != 0 {
		t.Errorf("%+v, %d", got, e)
	}
}

func TestH3MaxDeltas(t *testing.T) {
	x := some()
	for range api.MaxDeltas - 4 {
		got, e := Alter(x, retype(0, api.TypeInt), "")
		if e != api.OK {
			t.Fatal(e)
		}
		x = got
	}
	for _, d := range []api.Delta{retype(0, api.TypeInt), take(0), take(9), add(api.TypeInt, none), {}, {Kind: api.DeltaAdd, At: 1}} {
		wantAlterError(t, x, d, "", api.ErrMany)
		wantAlterError(t, x, d, "d", api.ErrMany)
	}
}

func TestH3AddWrong(t *testing.T) {
	right := add(api.TypeInt, number(1))
	for _, name := range []string{"", "A", "to", "abcdefghijklm", "1", "a b"} {
		wantAlterError(t, some(), right, name, api.ErrForm)
		wantAlterError(t, some(), add(9, truth(1)), name, api.ErrForm)
	}
	for _, name := range []string{"a", "b", "c"} {
		wantAlterError(t, some(), right, name, api.ErrTwice)
		wantAlterError(t, some(), add(0, none), name, api.ErrTwice)
	}
	for _, kind := range []int{math.MinInt, -1, 0, 4, math.MaxInt} {
		wantAlterError(t, some(), add(kind, none), "d", api.ErrKind)
		wantAlterError(t, some(), add(kind, number(1)), "d", api.ErrKind)
	}
	wantAlterError(t, some(), add(api.TypeText, number(1)), "d", api.ErrKind)
	wantAlterError(t, some(), add(api.TypeBool, number(1)), "d", api.ErrKind)
	wantAlterError(t, some(), add(api.TypeInt, truth(1)), "d", api.ErrKind)
	wantAlterError(t, some(), add(api.TypeInt, text("1")), "d", api.ErrKind)
}

// What the chapter of deltas says of one tells ahead of what a table says.
func TestH3DeltasThatAreWrong(t *testing.T) {
	bare := api.Table{Name: "t", Columns: full().Columns, Next: 1}
	for _, name := range []string{"", "a", "f", "to"} {
		wantAlterError(t, bare, add(api.TypeInt, none), name, api.ErrMany)
		wantAlterError(t, bare, add(9, none), name, api.ErrMany)
		wantAlterError(t, bare, add(api.TypeInt, truth(2)), name, api.ErrRange)
		wantAlterError(t, bare, add(api.TypeBool, api.Value{Kind: 4}), name, api.ErrKind)
		wantAlterError(t, bare, api.Delta{Kind: api.DeltaAdd, At: 1, Type: api.TypeInt}, name, api.ErrForm)
		for _, kind := range []int{-1, 0, 4} {
			wantAlterError(t, some(), api.Delta{Kind: kind}, name, api.ErrKind)
			wantAlterError(t, some(), retype(0, kind), name, api.ErrKind)
		}
		for _, at := range []int{math.MinInt, -1, 3, math.MaxInt} {
			wantAlterError(t, some(), take(at), name, api.ErrNone)
			wantAlterError(t, some(), retype(at, api.TypeInt), name, api.ErrNone)
			wantAlterError(t, some(), retype(at, 9), name, api.ErrNone)
		}
		wantAlterError(t, some(), api.Delta{Kind: api.DeltaTake, Type: 1}, name, api.ErrForm)
		wantAlterError(t, some(), api.Delta{Kind: api.DeltaTake, Value: none, At: 9, Type: 1}, name, api.ErrForm)
		wantAlterError(t, some(), api.Delta{Kind: api.DeltaRetype, Type: 1, Value: number(0)}, name, api.ErrForm)
	}
	// At the limit a column may go, and one come then.
	got, e := Alter(bare, take(4), "")
	if e == api.OK {
		got, e = Alter(got, add(api.TypeInt, none), "f")
	}
	if e != api.OK || len(got.Columns) != api.MaxColumns {
		t.Errorf("%+v, %d", got, e)
	}
}

// A name has no place but where a column comes; the only column stays, which tells last.
func TestH3TakeAndRetypeWrong(t *testing.T) {
	one := api.Table{Name: "t", Columns: []api.Column{{Name: "a", Type: api.TypeInt}}, Next: 1}
	for _, name := range []string{"d", "a", "to", " "} {
		wantAlterError(t, some(), take(0), name, api.ErrForm)
		wantAlterError(t, some(), retype(0, api.TypeInt), name, api.ErrForm)
		wantAlterError(t, one, take(0), name, api.ErrForm)
	}
	wantAlterError(t, one, take(0), "", api.ErrState)
	wantAlterError(t, one, take(1), "", api.ErrNone)
	got, e := Alter(one, add(api.TypeInt, none), "b")
	if e == api.OK {
		got, e = Alter(got, take(0), "")
	}
	want := api.Table{Name: "t", Columns: []api.Column{{Name: "b", Type: api.TypeInt}}, Deltas: []api.Delta{{Kind: api.DeltaAdd}, take(0)}, Next: 1}
	wantTable(t, got, e, want)
	wantAlterError(t, got, take(0), "", api.ErrState)
}

// A name that a column had is free again, once it is gone.
func TestH3NamesOfColumnsThatWent(t *testing.T) {
	got, e := Alter(some(), take(0), "")
	if e == api.OK {
		got, e = Alter(got, add(api.TypeBool, truth(1)), "a")
	}
	if e != api.OK || !slices.Equal(got.Columns, []api.Column{{Name: "b", Type: api.TypeText}, {Name: "c", Type: api.TypeBool}, {Name: "a", Type: api.TypeBool}}) {
		t.Errorf("%+v, %d", got, e)
	}
	_, rows, _ := Read(got)
	if !slices.Equal(rows[0], list(text("x"), truth(1), truth(1))) {
		t.Errorf("%v", rows)
	}
}
