package table

import (
	"math"
	"slices"
	"testing"

	"overhaul/api"
	"overhaul/row"
)

func number(n int) api.Value  { return api.Value{Kind: api.TypeInt, N: n} }
func text(s string) api.Value { return api.Value{Kind: api.TypeText, S: s} }
func truth(n int) api.Value   { return api.Value{Kind: api.TypeBool, N: n} }

var none = api.Value{}

func list(l ...api.Value) []api.Value { return l }

func bytes(l ...api.Value) string {
	s, e := row.Encode(l)
	if e != api.OK {
		panic(e)
	}
	return s
}

// some table, whose rows are of all its versions. It had the columns a text, z int; then a was an int, there was b, z went, and there was c.
func some() api.Table {
	return api.Table{
		Name:    "t",
		Columns: []api.Column{{Name: "a", Type: api.TypeInt}, {Name: "b", Type: api.TypeText}, {Name: "c", Type: api.TypeBool}},
		Deltas: []api.Delta{
			{Kind: api.DeltaRetype, Type: api.TypeInt},
			{Kind: api.DeltaAdd, Value: text("x")},
			{Kind: api.DeltaTake, At: 1},
			{Kind: api.DeltaAdd, Value: truth(1)},
		},
		Rows: []api.Stored{
			{Number: 1, Version: 0, Bytes: bytes(text("5"), number(7))},
			{Number: 2, Version: 0, Bytes: bytes(text("no"), none)},
			{Number: 4, Version: 1, Bytes: bytes(number(6), number(8))},
			{Number: 5, Version: 2, Bytes: bytes(number(6), none, text("q"))},
			{Number: 7, Version: 3, Bytes: bytes(none, text(""))},
			{Number: 8, Version: 4, Bytes: bytes(number(-9), text("x"), truth(0))},
		},
		Next: 10,
		Indexes: []api.Index{
			{Name: "i", At: 0, Built: 8, Entries: []api.Entry{{Key: "0", Number: 2}, {Key: "0", Number: 7}, {Key: "11000000005", Number: 1}, {Key: "11000000006", Number: 4}, {Key: "11000000006", Number: 5}}},
			{Name: "j", At: 1, Built: 10, Entries: []api.Entry{{Key: "2", Number: 7}, {Key: "2q", Number: 5}, {Key: "2x", Number: 1}, {Key: "2x", Number: 2}, {Key: "2x", Number: 4}, {Key: "2x", Number: 8}}},
			{Name: "k", At: 2, Built: 1},
		},
	}
}

// someRows: what is read of it.
func someRows() ([]int, [][]api.Value) {
	return []int{1, 2, 4, 5, 7, 8}, [][]api.Value{
		{number(5), text("x"), truth(1)},
		{none, text("x"), truth(1)},
		{number(6), text("x"), truth(1)},
		{number(6), text("q"), truth(1)},
		{none, text(""), truth(1)},
		{number(-9), text("x"), truth(0)},
	}
}

func same(a, b api.Table) bool {
	sameIndex := func(x, y api.Index) bool {
		return x.Name == y.Name && x.At == y.At && x.Built == y.Built && slices.Equal(x.Entries, y.Entries)
	}
	return a.Name == b.Name && a.Next == b.Next && slices.Equal(a.Columns, b.Columns) && slices.Equal(a.Deltas, b.Deltas) &&
		slices.Equal(a.Rows, b.Rows) && slices.EqualFunc(a.Indexes, b.Indexes, sameIndex)
}

func sameRows(a, b [][]api.Value) bool { return slices.EqualFunc(a, b, slices.Equal[[]api.Value]) }

func wantCheck(t *testing.T, x api.Table, errno api.Errno) {
	t.Helper()
	if e := Check(x); e != errno {
		t.Errorf("Check(%+v) = %d; want %d", x, e, errno)
	}
}

func wantRead(t *testing.T, x api.Table, numbers []int, rows [][]api.Value) {
	t.Helper()
	if n, l, e := Read(x); !slices.Equal(n, numbers) || !sameRows(l, rows) || e != api.OK {
		t.Errorf("Read = %v, %v, %d; want %v, %v", n, l, e, numbers, rows)
	}
}

// wantTable: a call has made this table, which is right, and without an error.
func wantTable(t *testing.T, got api.Table, e api.Errno, want api.Table) {
	t.Helper()
	if e != api.OK || !same(got, want) {
		t.Errorf("it is %+v, %d;\nwant %+v", got, e, want)
	}
	wantCheck(t, want, api.OK)
}

// wantError: a call has told this error, and has made nothing.
func wantError(t *testing.T, what any, got api.Table, e, want api.Errno) {
	t.Helper()
	if e != want || !same(got, api.Table{}) {
		t.Errorf("%v: it is %+v, %d; want %d", what, got, e, want)
	}
}

// change of a table that makes it wrong, and how.
type change struct {
	what  string
	do    func(*api.Table)
	errno api.Errno
}

func wantChanges(t *testing.T, l []change) {
	t.Helper()
	for _, c := range l {
		x := some()
		c.do(&x)
		if e := Check(x); e != c.errno {
			t.Errorf("%s: %d; want %d", c.what, e, c.errno)
		}
	}
}

func TestH1Right(t *testing.T) {
	wantCheck(t, some(), api.OK)
	wantCheck(t, api.Table{Name: "abcdefghijkl", Columns: []api.Column{{Name: "a", Type: 1}}, Next: 1}, api.OK)
	wantCheck(t, api.Table{Name: "a", Columns: []api.Column{{Name: "a", Type: 3}}, Next: 1000000, Indexes: []api.Index{{Name: "a", Built: 1000000}}}, api.OK)
}

// full: as much of everything as there may be.
func full() api.Table {
	x := api.Table{Name: "t", Next: 1000000}
	for _, name := range []string{"a", "b", "c", "d", "e"} {
		x.Columns = append(x.Columns, api.Column{Name: name, Type: api.TypeText})
	}
	for range api.MaxDeltas {
		x.Deltas = append(x.Deltas, api.Delta{Kind: api.DeltaRetype, Type: api.TypeText})
	}
	for i := range api.MaxRows {
		x.Rows = append(x.Rows, api.Stored{Number: 999999 - api.MaxRows + i + 1, Version: i % (api.MaxDeltas + 1), Bytes: bytes(none, none, none, none, none)})
	}
	for _, name := range []string{"a", "b", "c", "d"} {
		x.Indexes = append(x.Indexes, api.Index{Name: name, At: 4, Built: 1})
	}
	return x
}

// Too much of something tells, however much is wrong of what is looked at later.
func TestH1Limits(t *testing.T) {
	wantCheck(t, full(), api.OK)
	for i, do := range []func(*api.Table){
		func(x *api.Table) { x.Columns = append(x.Columns, api.Column{Name: "f", Type: 1}) },
		func(x *api.Table) { x.Deltas = append(x.Deltas, x.Deltas[0]) },
		func(x *api.Table) {
			x.Rows = append([]api.Stored{{Number: 1, Bytes: bytes(none, none, none, none, none)}}, x.Rows...)
		},
		func(x *api.Table) { x.Indexes = append(x.Indexes, api.Index{Name: "e", Built: 1}) },
	} {
		x := full()
		do(&x)
		if e := Check(x); e != api.ErrMany {
			t.Errorf("%d: %d", i, e)
		}
		x.Columns[0].Name, x.Next, x.Deltas[0].Kind, x.Rows[0].Number, x.Indexes[0].Name = "", 0, 0, 0, ""
		wantCheck(t, x, api.ErrMany)
		x.Name = ""
		wantCheck(t, x, api.ErrForm)
	}
}

func TestH1Frame(t *testing.T) {
	for _, name := range []string{"", "T", "1", "a b", "abcdefghijklm", "table", "or", "'a'"} {
		wantChanges(t, []change{
			{"table " + name, func(x *api.Table) { x.Name = name }, api.ErrForm},
			{"column " + name, func(x *api.Table) { x.Columns[2].Name = name }, api.ErrForm},
			{"index " + name, func(x *api.Table) { x.Indexes[2].Name = name }, api.ErrForm},
		})
	}
	wantChanges(t, []change{
		{"no columns", func(x *api.Table) { x.Columns = nil }, api.ErrForm},
		{"no columns, but many rows", func(x *api.Table) { x.Columns, x.Rows = []api.Column{}, make([]api.Stored, 31) }, api.ErrForm},
		{"Next 0", func(x *api.Table) { x.Next = 0 }, api.ErrRange},
		{"Next below 0", func(x *api.Table) { x.Next = math.MinInt }, api.ErrRange},
		{"Next 1000001", func(x *api.Table) { x.Next = 1000001 }, api.ErrRange},
		{"Next far too great", func(x *api.Table) { x.Next = math.MaxInt }, api.ErrRange},
		{"Next 1000000", func(x *api.Table) { x.Next = 1000000 }, api.OK},
		{"Next 8", func(x *api.Table) { x.Next, x.Indexes = 8, nil }, api.ErrState},
		{"Next 9", func(x *api.Table) { x.Next, x.Indexes = 9, nil }, api.OK},
	})
}

// Of one column a name that is none tells first, then its kind, then a name that is there twice; the first column of which something is wrong tells.
func TestH1ColumnByColumn(t *testing.T) {
	columns := func(l ...api.Column) func(*api.Table) {
		return func(x *api.Table) {
			x.Columns = l
		}
	}
	a, wrong := api.Column{Name: "a", Type: 1}, api.Column{Name: "b", Type: 4}
	wantChanges(t, []change{
		{"kind 4", columns(a, wrong), api.ErrKind},
		{"kind 0", columns(a, api.Column{Name: "b"}), api.ErrKind},
		{"kind below 0", columns(api.Column{Name: "b", Type: -1}, a), api.ErrKind},
		{"twice", columns(a, api.Column{Name: "b", Type: 1}, a), api.ErrTwice},
		{"twice, of two kinds", columns(a, api.Column{Name: "a", Type: 2}), api.ErrTwice},
		{"no name, no kind", columns(a, api.Column{}), api.ErrForm},
		{"twice, no kind", columns(a, api.Column{Name: "a", Type: 9}), api.ErrKind},
		{"twice, then no name", columns(a, a, api.Column{}), api.ErrTwice},
		{"no kind, then no name", columns(wrong, api.Column{}), api.ErrKind},
		{"no kind, then twice", columns(a, wrong, a), api.ErrKind},
		{"no name, then no kind", columns(api.Column{}, wrong), api.ErrForm},
	})
}

func TestH1Deltas(t *testing.T) {
	add, take := api.Delta{Kind: api.DeltaAdd}, api.Delta{Kind: api.DeltaTake}
	for _, c := range []struct {
		columns int
		l       []api.Delta
		errno   api.Errno
	}{
		{1, []api.Delta{add}, api.OK},
		{1, []api.Delta{add, add}, api.ErrState},
		{1, []api.Delta{take, add}, api.OK},
		{1, []api.Delta{add, take}, api.OK},
		{1, []api.Delta{take, take, take, take}, api.OK},
		{1, []api.Delta{take, take, take, take, take}, api.ErrState},
		{5, []api.Delta{take}, api.ErrState},
		{5, []api.Delta{take, add}, api.OK},
		{5, []api.Delta{add, take}, api.ErrMany},
		{5, []api.Delta{add, add, add, add, add}, api.OK},
		{5, []api.Delta{add, add, add, add, add, add}, api.ErrState},
		{2, []api.Delta{take, take, add, add}, api.OK},
		{2, []api.Delta{take, take, take, add}, api.OK},
		{1, []api.Delta{take, take, take, add, add}, api.ErrNone},
		{2, []api.Delta{{}}, api.ErrKind},
		{2, []api.Delta{{Kind: 4}, add}, api.ErrKind},
		{2, []api.Delta{{Kind: api.DeltaAdd, Type: 1}}, api.ErrForm},
		{2, []api.Delta{{Kind: api.DeltaAdd, Value: truth(2)}}, api.ErrRange},
		{2, []api.Delta{{Kind: api.DeltaTake, At: 2}}, api.OK},
		{2, []api.Delta{{Kind: api.DeltaTake, At: 3}}, api.ErrNone},
		{2, []api.Delta{{Kind: api.DeltaRetype, At: 1, Type: 1}}, api.OK},
		{2, []api.Delta{{Kind: api.DeltaRetype, At: 2, Type: 1}}, api.ErrNone},
		{2, []api.Delta{{Kind: api.DeltaRetype, At: 1}}, api.ErrKind},
		// A width that none may be tells ahead of what else is wrong with deltas.
		{1, []api.Delta{{}, add, add}, api.ErrState},
		{5, []api.Delta{{Kind: api.DeltaTake, Type: 1}}, api.ErrState},
	} {
		x := api.Table{Name: "t", Columns: full().Columns[:c.columns], Deltas: c.l, Next: 1}
		wantCheck(t, x, c.errno)
	}
}

func TestH1RowByRow(t *testing.T) {
	wantChanges(t, []change{
		{"number 0", func(x *api.Table) { x.Rows[0].Number = 0 }, api.ErrState},
		{"number below 0", func(x *api.Table) { x.Rows[0].Number = math.MinInt }, api.ErrState},
		{"number of the one ahead", func(x *api.Table) { x.Rows[1].Number = 1 }, api.ErrState},
		{"number Next", func(x *api.Table) { x.Rows[5].Number = 10 }, api.ErrState},
		{"number far too great", func(x *api.Table) { x.Rows[5].Number = math.MaxInt }, api.ErrState},
		{"number one less than Next", func(x *api.Table) { x.Rows[5].Number, x.Indexes = 9, nil }, api.OK},
		{"rows turned round", func(x *api.Table) { slices.Reverse(x.Rows) }, api.ErrState},
		{"version below 0", func(x *api.Table) { x.Rows[0].Version = -1 }, api.ErrRange},
		{"version far too great", func(x *api.Table) { x.Rows[0].Version = math.MaxInt }, api.ErrRange},
		{"no bytes", func(x *api.Table) { x.Rows[0].Bytes = "" }, api.ErrForm},
		{"bytes too many", func(x *api.Table) { x.Rows[0].Bytes += "\x00" }, api.ErrForm},
		{"too many values", func(x *api.Table) { x.Rows[5].Bytes = "\x06\x00\x00\x00\x00\x00\x00" }, api.ErrMany},
		{"a wrong value", func(x *api.Table) { x.Rows[5].Bytes = "\x03\x00\x00\x03\x02" }, api.ErrRange},
		{"too many on the way", func(x *api.Table) { x.Rows[0].Bytes = bytes(none, none, none, none, none) }, api.ErrMany},
		{"too many behind", func(x *api.Table) { x.Rows[0].Bytes = bytes(none, none, none) }, api.ErrState},
		{"none that could go", func(x *api.Table) { x.Rows[3].Bytes = bytes(none) }, api.ErrNone},
		{"none that could be cast", func(x *api.Table) { x.Rows[0].Bytes = bytes() }, api.ErrNone},
		{"too few", func(x *api.Table) { x.Rows[5].Bytes = bytes(none, none) }, api.ErrState},
		{"none", func(x *api.Table) { x.Rows[5].Bytes = bytes() }, api.ErrState},
		{"one more", func(x *api.Table) { x.Rows[5].Bytes = bytes(none, none, none, none) }, api.ErrState},
		{"of another kind", func(x *api.Table) { x.Rows[5].Bytes = bytes(none, number(1), none) }, api.ErrState},
		{"of another kind behind", func(x *api.Table) { x.Rows[3].Bytes = bytes(none, none, number(1)) }, api.ErrState},
		{"of another kind by a delta", func(x *api.Table) { x.Deltas[3].Value = number(1) }, api.ErrState},
		{"of another kind, but it goes", func(x *api.Table) { x.Rows[0].Bytes = bytes(text("5"), text("z")) }, api.OK},
		{"of a later version", func(x *api.Table) { x.Rows[0].Version = 1 }, api.ErrState},
	})
}

// Of one row the error that is named first tells.
func TestH1ErrorsOfOneRowInOrder(t *testing.T) {
	tooFew := bytes()
	wantChanges(t, []change{
		{"number, version", func(x *api.Table) { x.Rows[2].Number, x.Rows[2].Version = 2, 9 }, api.ErrState},
		{"number, bytes", func(x *api.Table) { x.Rows[2].Number, x.Rows[2].Bytes = 2, "" }, api.ErrState},
		{"version, bytes", func(x *api.Table) { x.Rows[2].Version, x.Rows[2].Bytes = 9, "" }, api.ErrRange},
		{"version, values", func(x *api.Table) { x.Rows[2].Version, x.Rows[2].Bytes = -1, tooFew }, api.ErrRange},
		{"deltas, values", func(x *api.Table) { x.Rows[2].Bytes = tooFew }, api.ErrNone},
	})
}

func TestH1TheFirstRowTells(t *testing.T) {
	wantChanges(t, []change{
		{"values, then number", func(x *api.Table) { x.Rows[0].Bytes, x.Rows[1].Number = bytes(none, none, none), 0 }, api.ErrState},
		{"version, then number", func(x *api.Table) { x.Rows[0].Version, x.Rows[1].Number = 9, 0 }, api.ErrRange},
		{"bytes, then number", func(x *api.Table) { x.Rows[0].Bytes, x.Rows[1].Number = "", 0 }, api.ErrForm},
		{"bytes, then version", func(x *api.Table) { x.Rows[0].Bytes, x.Rows[1].Version = "", 9 }, api.ErrForm},
		{"deltas, then version", func(x *api.Table) { x.Rows[0].Bytes, x.Rows[1].Version = bytes(), 9 }, api.ErrNone},
		{"number, then bytes", func(x *api.Table) { x.Rows[0].Number, x.Rows[1].Bytes = 0, "" }, api.ErrState},
	})
}

// What is told ahead of all that stands behind it, of the table as a whole.
func TestH1ErrorsInOrder(t *testing.T) {
	l := []change{
		{"name", func(x *api.Table) { x.Name = "" }, api.ErrForm},
		{"many", func(x *api.Table) { x.Indexes = append(x.Indexes, make([]api.Index, 2)...) }, api.ErrMany},
		{"column", func(x *api.Table) { x.Columns[2].Name = "a" }, api.ErrTwice},
		{"next", func(x *api.Table) { x.Next = 1000001 }, api.ErrRange},
		{"deltas", func(x *api.Table) { x.Deltas[0].Kind = 9 }, api.ErrKind},
		{"row", func(x *api.Table) { x.Rows[5].Bytes = "" }, api.ErrForm},
		{"index", func(x *api.Table) { x.Indexes[0].At = 3 }, api.ErrNone},
	}
	wantChanges(t, l)
	for i, a := range l {
		for _, b := range l[i+1:] {
			wantChanges(t, []change{{a.what + " and " + b.what, func(x *api.Table) { b.do(x); a.do(x) }, a.errno}})
		}
	}
}

func TestH1IndexByIndex(t *testing.T) {
	wantChanges(t, []change{
		{"twice", func(x *api.Table) { x.Indexes[2].Name = "i" }, api.ErrTwice},
		{"name of a column", func(x *api.Table) { x.Indexes[2].Name = "a" }, api.OK},
		{"At below 0", func(x *api.Table) { x.Indexes[2].At = -1 }, api.ErrNone},
		{"At 3", func(x *api.Table) { x.Indexes[2].At = 3 }, api.ErrNone},
		{"At far too great", func(x *api.Table) { x.Indexes[2].At = math.MaxInt }, api.ErrNone},
		{"At another column", func(x *api.Table) { x.Indexes[2].At = 0 }, api.OK},
		{"Built 0", func(x *api.Table) { x.Indexes[2].Built = 0 }, api.ErrRange},
		{"Built below 0", func(x *api.Table) { x.Indexes[2].Built = math.MinInt }, api.ErrRange},
		{"Built more than Next", func(x *api.Table) { x.Indexes[1].Built = 11 }, api.ErrRange},
		{"Built 2", func(x *api.Table) { x.Indexes[2].Built = 2 }, api.ErrState},
		{"Built where no row is", func(x *api.Table) { x.Indexes[1].Built = 9 }, api.OK},
		{"Built at a row", func(x *api.Table) { x.Indexes[1].Built = 8 }, api.ErrState},
		{"Built at a row that was not in it", func(x *api.Table) { x.Indexes[0].Built = 9 }, api.ErrState},
		{"Built less", func(x *api.Table) { x.Indexes[0].Built = 7 }, api.ErrState},
	})
	wantChanges(t, []change{
		{"name, At", func(x *api.Table) { x.Indexes[2].Name, x.Indexes[2].At = "", 9 }, api.ErrForm},
		{"twice, At", func(x *api.Table) { x.Indexes[2].Name, x.Indexes[2].At = "i", 9 }, api.ErrTwice},
		{"At, Built", func(x *api.Table) { x.Indexes[2].At, x.Indexes[2].Built = 9, 0 }, api.ErrNone},
		{"Built, Entries", func(x *api.Table) { x.Indexes[0].Built = 11 }, api.ErrRange},
		{"Entries, then name", func(x *api.Table) { x.Indexes[0].Entries, x.Indexes[1].Name = nil, "" }, api.ErrState},
		{"At, then name", func(x *api.Table) { x.Indexes[0].At, x.Indexes[1].Name = 9, "" }, api.ErrNone},
		{"Built, then twice", func(x *api.Table) { x.Indexes[0].Built, x.Indexes[1].Name = 0, "i" }, api.ErrRange},
	})
}

// An index has just the entries that it must, in their order.
func TestH1Entries(t *testing.T) {
	l := func(do func([]api.Entry) []api.Entry) func(*api.Table) {
		return func(x *api.Table) { x.Indexes[0].Entries = do(x.Indexes[0].Entries) }
	}
	wantChanges(t, []change{
		{"none", l(func(l []api.Entry) []api.Entry { return nil }), api.ErrState},
		{"one less", l(func(l []api.Entry) []api.Entry { return l[:4] }), api.ErrState},
		{"without the first", l(func(l []api.Entry) []api.Entry { return l[1:] }), api.ErrState},
		{"one twice", l(func(l []api.Entry) []api.Entry { return append(l, l[4]) }), api.ErrState},
		{"one of no row", l(func(l []api.Entry) []api.Entry { return append(l, api.Entry{Key: "11000000007", Number: 6}) }), api.ErrState},
		{"one that is not built yet", l(func(l []api.Entry) []api.Entry { return slices.Insert(l, 2, api.Entry{Key: "10999999991", Number: 8}) }), api.ErrState},
		{"keys turned round", l(func(l []api.Entry) []api.Entry { l[1], l[2] = l[2], l[1]; return l }), api.ErrState},
		{"numbers turned round", l(func(l []api.Entry) []api.Entry { l[0], l[1] = l[1], l[0]; return l }), api.ErrState},
		{"another key", l(func(l []api.Entry) []api.Entry { l[2].Key = "11000000004"; return l }), api.ErrState},
		{"the key that it was", l(func(l []api.Entry) []api.Entry { l[2].Key = "25"; return l }), api.ErrState},
		{"another number", l(func(l []api.Entry) []api.Entry { l[2].Number = 3; return l }), api.ErrState},
		{"those of another column", func(x *api.Table) { x.Indexes[1].At = 0 }, api.ErrState},
		{"far too many", l(func(l []api.Entry) []api.Entry { return make([]api.Entry, 1<<20) }), api.ErrState},
		{"without rows", func(x *api.Table) { x.Rows = nil }, api.ErrState},
	})
}
