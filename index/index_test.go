package index

import (
	"math"
	"reflect"
	"slices"
	"strings"
	"testing"

	"overhaul/api"
	"overhaul/row"
	"overhaul/table"
)

func number(n int) api.Value  { return api.Value{Kind: api.TypeInt, N: n} }
func text(s string) api.Value { return api.Value{Kind: api.TypeText, S: s} }
func truth(n int) api.Value   { return api.Value{Kind: api.TypeBool, N: n} }

var none = api.Value{}

func bytes(l ...api.Value) string {
	s, e := row.Encode(l)
	if e != api.OK {
		panic(e)
	}
	return s
}

// some table, whose rows are of all its versions, and have numbers with gaps between. It had the column a text; then a was an int, and there was b.
func some() api.Table {
	return api.Table{
		Name:    "t",
		Columns: []api.Column{{Name: "a", Type: api.TypeInt}, {Name: "b", Type: api.TypeText}},
		Deltas:  []api.Delta{{Kind: api.DeltaRetype, Type: api.TypeInt}, {Kind: api.DeltaAdd, Value: text("x")}},
		Rows: []api.Stored{
			{Number: 2, Version: 0, Bytes: bytes(text("5"))},
			{Number: 3, Version: 1, Bytes: bytes(number(-7))},
			{Number: 5, Version: 2, Bytes: bytes(none, text(""))},
			{Number: 6, Version: 1, Bytes: bytes(number(5))},
			{Number: 8, Version: 0, Bytes: bytes(text("no"))},
		},
		Next:    10,
		Indexes: []api.Index{{Name: "i", At: 0, Built: 1}, {Name: "j", At: 1, Built: 1}},
	}
}

// Entries of both indexes, in the order in which their rows come, and the numbers that Built is then, one behind the other.
func steps(k int) ([]api.Entry, []int) {
	built := []int{1, 3, 4, 6, 7, 10}
	if k == 0 {
		return []api.Entry{{Key: "11000000005", Number: 2}, {Key: "10999999993", Number: 3}, {Key: "0", Number: 5}, {Key: "11000000005", Number: 6}, {Key: "0", Number: 8}}, built
	}
	return []api.Entry{{Key: "2x", Number: 2}, {Key: "2x", Number: 3}, {Key: "2", Number: 5}, {Key: "2x", Number: 6}, {Key: "2x", Number: 8}}, built
}

// builtSoFar: some table with an index in which so many rows are.
func builtSoFar(k, rows int) api.Table {
	entries, built := steps(k)
	entries = slices.Clone(entries[:rows])
	slices.SortStableFunc(entries, func(a, b api.Entry) int { return strings.Compare(a.Key, b.Key) })
	x := some()
	x.Indexes[k].Built, x.Indexes[k].Entries = built[rows], entries
	return x
}

// same tables, but for whether a list without elements is nil.
func same(a, b api.Table) bool {
	sameIndex := func(x, y api.Index) bool {
		return x.Name == y.Name && x.At == y.At && x.Built == y.Built && slices.Equal(x.Entries, y.Entries)
	}
	return a.Name == b.Name && a.Next == b.Next && slices.Equal(a.Columns, b.Columns) && slices.Equal(a.Deltas, b.Deltas) &&
		slices.Equal(a.Rows, b.Rows) && slices.EqualFunc(a.Indexes, b.Indexes, sameIndex)
}

func wantBuild(t *testing.T, x api.Table, k, many int, want api.Table) {
	t.Helper()
	got, e := Build(x, k, many)
	if e != api.OK || !same(got, want) {
		t.Errorf("Build(%d, %d) of %+v = %+v, %d;\nwant %+v", k, many, x, got, e, want)
	}
	if e := table.Check(got); e != api.OK {
		t.Errorf("Check of %+v is %d", got, e)
	}
}

func wantDone(t *testing.T, x api.Table, k int, want bool) {
	t.Helper()
	if is, e := Done(x, k); is != want || e != api.OK {
		t.Errorf("Done(%d) of %+v = %v, %d; want %v", k, x, is, e, want)
	}
}

func wantFind(t *testing.T, x api.Table, k int, v api.Value, want ...int) {
	t.Helper()
	if l, e := Find(x, k, v); !slices.Equal(l, want) || e != api.OK {
		t.Errorf("Find(%d, %v) = %v, %d; want %v", k, v, l, e, want)
	}
}

// wantErrors of Build, Done and Find: all else that they answer is empty.
func wantErrors(t *testing.T, x api.Table, k, many int, v api.Value, build, done, find api.Errno) {
	t.Helper()
	if got, e := Build(x, k, many); e != build || e != api.OK && !reflect.DeepEqual(got, api.Table{}) {
		t.Errorf("Build(%d, %d) = %+v, %d; want %d", k, many, got, e, build)
	}
	if is, e := Done(x, k); e != done || e != api.OK && is {
		t.Errorf("Done(%d) = %v, %d; want %d", k, is, e, done)
	}
	if l, e := Find(x, k, v); e != find || e != api.OK && len(l) > 0 {
		t.Errorf("Find(%d, %v) = %v, %d; want %d", k, v, l, e, find)
	}
}

// From each step to each one behind it; the other index stays as it is.
func TestI1BuildStepByStep(t *testing.T) {
	all := len(some().Rows)
	for k := range 2 {
		for from := range all + 1 {
			x := builtSoFar(k, from)
			wantDone(t, x, k, from == all)
			for many := 1; many <= api.MaxRows; many++ {
				wantBuild(t, x, k, many, builtSoFar(k, min(from+many, all)))
			}
		}
	}
}

// Where rows went, Built may lie ahead of the next row, or behind all of them.
func TestI1BuildFromAGap(t *testing.T) {
	x := builtSoFar(0, 3)
	x.Indexes[0].Built = 5 // row 5 is not in it
	x.Indexes[0].Entries = x.Indexes[0].Entries[1:]
	wantBuild(t, x, 0, 1, builtSoFar(0, 3))
	x.Indexes[0].Built = 4
	wantBuild(t, x, 0, 1, builtSoFar(0, 3))
	wantBuild(t, x, 0, 2, builtSoFar(0, 4))

	x = builtSoFar(0, 5)
	x.Indexes[0].Built = 9 // all rows are in it, but it is not told so yet
	wantDone(t, x, 0, false)
	wantErrors(t, x, 0, 1, none, api.OK, api.OK, api.ErrState)
	wantBuild(t, x, 0, 1, builtSoFar(0, 5))

	x = builtSoFar(0, 2)
	x.Rows = x.Rows[2:]
	x.Indexes[0].Entries = nil
	want := x
	want.Indexes = slices.Clone(x.Indexes)
	want.Indexes[0].Built, want.Indexes[0].Entries = 7, []api.Entry{{Key: "0", Number: 5}, {Key: "11000000005", Number: 6}}
	wantBuild(t, x, 0, 2, want)
}

func TestI1WithoutRows(t *testing.T) {
	x := some()
	x.Rows = nil
	wantDone(t, x, 0, false)
	want := some()
	want.Rows = nil
	want.Indexes[0].Built = 10
	wantBuild(t, x, 0, 1, want)
	wantFind(t, want, 0, none)
	x.Next, want.Next, want.Indexes[0].Built = 1, 1, 1
	wantDone(t, x, 0, true)
	wantBuild(t, x, 0, 30, want)
	wantFind(t, x, 1, text("x"))
}

// full: as many rows as there may be, up to the greatest number.
func full() api.Table {
	x := api.Table{Name: "t", Columns: []api.Column{{Name: "a", Type: api.TypeBool}}, Next: 1000000, Indexes: []api.Index{{Name: "i", Built: 1}}}
	for i := range api.MaxRows {
		x.Rows = append(x.Rows, api.Stored{Number: 999970 + i, Bytes: bytes(truth(1))})
	}
	return x
}

func TestI1Limits(t *testing.T) {
	for _, c := range []struct{ many, built int }{{1, 999971}, {29, 999999}, {30, 1000000}} {
		got, e := Build(full(), 0, c.many)
		if e != api.OK || got.Indexes[0].Built != c.built || len(got.Indexes[0].Entries) != c.many {
			t.Errorf("%d: it is %+v, %d", c.many, got.Indexes, e)
		}
		wantDone(t, got, 0, c.many == 30)
	}
	for _, many := range []int{math.MinInt, -1, 0, 31, 1000, math.MaxInt} {
		wantErrors(t, full(), 0, many, truth(1), api.ErrRange, api.OK, api.ErrState)
	}
}

func TestI1Find(t *testing.T) {
	x := builtSoFar(0, 5)
	wantFind(t, x, 0, none, 5, 8)
	wantFind(t, x, 0, number(5), 2, 6)
	wantFind(t, x, 0, number(-7), 3)
	wantFind(t, x, 0, number(-8))
	wantFind(t, x, 0, number(7))
	wantFind(t, x, 0, number(api.MaxInt))
	wantFind(t, x, 0, number(-api.MaxInt))
	wantFind(t, x, 0, truth(1))
	wantFind(t, x, 0, text(""))
	wantFind(t, x, 0, text("5"))
	x = builtSoFar(1, 5)
	wantFind(t, x, 1, text("x"), 2, 3, 6, 8)
	wantFind(t, x, 1, text(""), 5)
	wantFind(t, x, 1, text("xx"))
	wantFind(t, x, 1, text("w"))
	wantFind(t, x, 1, none)
	wantFind(t, x, 1, number(5))
}

// One value may be the beginning of another.
func TestI1FindTextsThatBeginAlike(t *testing.T) {
	x := api.Table{Name: "t", Columns: []api.Column{{Name: "a", Type: api.TypeText}}, Next: 1, Indexes: []api.Index{{Name: "i", Built: 1}}}
	for _, s := range []string{"ab", "a", "", "ab", "b", "a", "abc", ""} {
		x, _ = table.Insert(x, []api.Value{text(s)})
	}
	wantFind(t, x, 0, text(""), 3, 8)
	wantFind(t, x, 0, text("a"), 2, 6)
	wantFind(t, x, 0, text("ab"), 1, 4)
	wantFind(t, x, 0, text("abc"), 7)
	wantFind(t, x, 0, text("b"), 5)
	wantFind(t, x, 0, text("abcd"))
	wantFind(t, x, 0, none)
}

// A wrong value tells ahead of an index that is not done.
func TestI1FindErrorsInOrder(t *testing.T) {
	for _, c := range []struct {
		v     api.Value
		errno api.Errno
	}{
		{api.Value{Kind: 4}, api.ErrKind},
		{api.Value{Kind: -1, N: 1}, api.ErrKind},
		{truth(2), api.ErrRange},
		{number(api.MaxInt + 1), api.ErrRange},
		{text("it's"), api.ErrRange},
		{text("123456789012345678901"), api.ErrRange},
		{api.Value{N: 1}, api.ErrRange},
	} {
		wantErrors(t, builtSoFar(0, 5), 0, 1, c.v, api.OK, api.OK, c.errno)
		wantErrors(t, builtSoFar(0, 4), 0, 1, c.v, api.OK, api.OK, c.errno)
	}
	for _, v := range []api.Value{none, number(5), truth(0), text("12345678901234567890")} {
		wantErrors(t, builtSoFar(0, 4), 0, 1, v, api.OK, api.OK, api.ErrState)
		wantErrors(t, builtSoFar(0, 5), 1, 1, v, api.OK, api.OK, api.ErrState)
		wantErrors(t, builtSoFar(0, 5), 0, 1, v, api.OK, api.OK, api.OK)
	}
}

func TestI1NoSuchIndex(t *testing.T) {
	for _, k := range []int{math.MinInt, -1, 2, 3, math.MaxInt} {
		for _, many := range []int{0, 1, 31} {
			wantErrors(t, some(), k, many, number(5), api.ErrNone, api.ErrNone, api.ErrNone)
			wantErrors(t, some(), k, many, truth(2), api.ErrNone, api.ErrNone, api.ErrNone)
		}
	}
	x := some()
	x.Indexes = nil
	wantErrors(t, x, 0, 1, none, api.ErrNone, api.ErrNone, api.ErrNone)
}

// What is wrong with the table tells ahead of all else.
func TestI1TheTableTellsFirst(t *testing.T) {
	for _, c := range []struct {
		do    func(*api.Table)
		errno api.Errno
	}{
		{func(x *api.Table) { x.Name = "" }, api.ErrForm},
		{func(x *api.Table) { x.Columns[1].Name = "a" }, api.ErrTwice},
		{func(x *api.Table) { x.Next = 0 }, api.ErrRange},
		{func(x *api.Table) { x.Deltas[0].Type = 4 }, api.ErrKind},
		{func(x *api.Table) { x.Rows[4].Number = 10 }, api.ErrState},
		{func(x *api.Table) { x.Indexes = make([]api.Index, 5) }, api.ErrMany},
		{func(x *api.Table) { x.Indexes[1].At = 2 }, api.ErrNone},
		{func(x *api.Table) { x.Indexes[0].Built = 3 }, api.ErrState},
		{func(x *api.Table) { x.Indexes[1].Built = 11 }, api.ErrRange},
	} {
		x := some()
		c.do(&x)
		wantErrors(t, x, 0, 1, number(5), c.errno, c.errno, c.errno)
		wantErrors(t, x, 9, 0, api.Value{Kind: 9}, c.errno, c.errno, c.errno)
	}
	wantErrors(t, api.Table{}, 0, 1, none, api.ErrForm, api.ErrForm, api.ErrForm)
}
