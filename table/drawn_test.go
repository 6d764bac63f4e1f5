package table

import (
	"cmp"
	"fmt"
	"math/rand"
	"slices"
	"strconv"
	"testing"

	"overhaul/api"
	"overhaul/delta"
)

// model: a table told another way: each column has a life of its own, and rows have a value for each.
type model struct {
	columns []*column
	deltas  []api.Delta
	rows    []*held
	next    int
	indexes []*built
}

type column struct {
	name string
	kind int
}

// held row: its values now, and as it is stored.
type held struct {
	is     map[*column]api.Value
	stored api.Stored
}

type built struct {
	name string
	on   *column
	upTo int
}

func (m *model) values(h *held) []api.Value {
	var l []api.Value
	for _, c := range m.columns {
		l = append(l, h.is[c])
	}
	return l
}

// store a row as it is now.
func (m *model) store(h *held) {
	h.stored.Version, h.stored.Bytes = len(m.deltas), bytes(m.values(h)...)
}

func (m *model) read() ([]int, [][]api.Value) {
	var numbers []int
	var rows [][]api.Value
	for _, h := range m.rows {
		numbers = append(numbers, h.stored.Number)
		rows = append(rows, m.values(h))
	}
	return numbers, rows
}

func (m *model) table() api.Table {
	x := api.Table{Name: "t", Deltas: slices.Clone(m.deltas), Next: m.next}
	for _, c := range m.columns {
		x.Columns = append(x.Columns, api.Column{Name: c.name, Type: c.kind})
	}
	for _, h := range m.rows {
		x.Rows = append(x.Rows, h.stored)
	}
	for _, b := range m.indexes {
		x.Indexes = append(x.Indexes, api.Index{Name: b.name, At: slices.Index(m.columns, b.on), Built: b.upTo, Entries: m.entries(b)})
	}
	return x
}

// entries of an index, by values, not by keys.
func (m *model) entries(b *built) []api.Entry {
	var in []*held
	for _, h := range m.rows {
		if h.stored.Number < b.upTo {
			in = append(in, h)
		}
	}
	slices.SortStableFunc(in, func(x, y *held) int {
		v, w := x.is[b.on], y.is[b.on]
		return cmp.Or(cmp.Compare(v.Kind, w.Kind), cmp.Compare(v.N, w.N), cmp.Compare(v.S, w.S))
	})
	var l []api.Entry
	for _, h := range in {
		l = append(l, api.Entry{Key: keyOf(h.is[b.on]), Number: h.stored.Number})
	}
	return l
}

func keyOf(v api.Value) string {
	switch v.Kind {
	case api.TypeInt:
		return fmt.Sprintf("1%010d", v.N+1000000000)
	case api.TypeText:
		return "2" + v.S
	case api.TypeBool:
		return "3" + strconv.Itoa(v.N)
	}
	return "0"
}

func isWrong(v api.Value) bool { return v == truth(2) || v == api.Value{Kind: 4} }

func told(l []api.Value) api.Errno {
	for _, v := range l {
		if v == truth(2) {
			return api.ErrRange
		}
		if isWrong(v) {
			return api.ErrKind
		}
	}
	return api.OK
}

func (m *model) insert(l []api.Value) api.Errno {
	if len(l) != len(m.columns) {
		return api.ErrForm
	}
	if e := told(l); e != api.OK {
		return e
	}
	h := &held{is: map[*column]api.Value{}}
	for i, c := range m.columns {
		if l[i] != none && l[i].Kind != c.kind {
			return api.ErrKind
		}
		h.is[c] = l[i]
	}
	if len(m.rows) >= api.MaxRows {
		return api.ErrMany
	}
	for _, b := range m.indexes {
		if b.upTo == m.next {
			b.upTo++
		}
	}
	h.stored.Number = m.next
	m.store(h)
	m.rows = append(m.rows, h)
	m.next++
	return api.OK
}

func (m *model) delete(numbers []int) api.Errno {
	var left []*held
	for _, h := range m.rows {
		if !slices.Contains(numbers, h.stored.Number) {
			left = append(left, h)
		}
	}
	m.rows = left
	return api.OK
}

func (m *model) update(numbers []int, at int, l []api.Value) api.Errno {
	if at < 0 || at >= len(m.columns) {
		return api.ErrNone
	}
	rising := slices.Compact(slices.Sorted(slices.Values(numbers)))
	if len(l) != len(numbers) || !slices.Equal(rising, numbers) {
		return api.ErrForm
	}
	is := map[int]*held{}
	for _, h := range m.rows {
		is[h.stored.Number] = h
	}
	for _, n := range numbers {
		if is[n] == nil {
			return api.ErrNone
		}
	}
	if e := told(l); e != api.OK {
		return e
	}
	for _, v := range l {
		if v != none && v.Kind != m.columns[at].kind {
			return api.ErrKind
		}
	}
	for i, n := range numbers {
		is[n].is[m.columns[at]] = l[i]
		m.store(is[n])
	}
	return api.OK
}

func (m *model) alter(d api.Delta, name string) api.Errno {
	isAdd := d.Kind == api.DeltaAdd
	hasName := slices.ContainsFunc(m.columns, func(c *column) bool { return c.name == name })
	for _, c := range []struct {
		holds bool
		errno api.Errno
	}{
		{len(m.deltas) >= api.MaxDeltas, api.ErrMany},
		{d.Kind < 1 || d.Kind > 3, api.ErrKind},
		{isAdd && d.At != 0, api.ErrForm},
		{d.Kind == api.DeltaTake && d.Type != 0, api.ErrForm},
		{!isAdd && d.Value != none, api.ErrForm},
		{isAdd && isWrong(d.Value), told(list(d.Value))},
		{isAdd && len(m.columns) >= api.MaxColumns, api.ErrMany},
		{!isAdd && (d.At < 0 || d.At >= len(m.columns)), api.ErrNone},
		{d.Kind == api.DeltaRetype && (d.Type < 1 || d.Type > 3), api.ErrKind},
		{isAdd && (name == "" || name == "to"), api.ErrForm},
		{isAdd && hasName, api.ErrTwice},
		{isAdd && (d.Type < 1 || d.Type > 3), api.ErrKind},
		{isAdd && d.Value != none && d.Value.Kind != d.Type, api.ErrKind},
		{!isAdd && name != "", api.ErrForm},
		{d.Kind == api.DeltaTake && len(m.columns) == 1, api.ErrState},
	} {
		if c.holds {
			return c.errno
		}
	}
	switch d.Kind {
	case api.DeltaAdd:
		c := &column{name, d.Type}
		m.columns = append(m.columns, c)
		for _, h := range m.rows {
			h.is[c] = d.Value
		}
		d.Type = 0
	case api.DeltaTake:
		gone := m.columns[d.At]
		m.columns = slices.DeleteFunc(m.columns, func(c *column) bool { return c == gone })
		m.indexes = slices.DeleteFunc(m.indexes, func(b *built) bool { return b.on == gone })
	case api.DeltaRetype:
		m.retype(m.columns[d.At], d.Type)
	}
	m.deltas = append(m.deltas, d)
	return api.OK
}

func (m *model) retype(c *column, kind int) {
	for _, h := range m.rows {
		h.is[c] = cast(h.is[c], kind)
	}
	for _, b := range m.indexes {
		if b.on == c {
			b.upTo = 1
		}
	}
	c.kind = kind
}

// cast of a value that is drawn here, or came of one.
func cast(v api.Value, to int) api.Value {
	texts := map[string][]api.Value{"true": {none, truth(1)}, "false": {none, truth(0)}}
	for n := -9; n <= 9; n++ {
		texts[strconv.Itoa(n)] = list(number(n), none)
	}
	switch {
	case v.Kind == 0 || v.Kind == to:
		return v
	case v.Kind == api.TypeText && texts[v.S] == nil:
		return none
	case v.Kind == api.TypeText:
		return texts[v.S][to/2]
	case to == api.TypeText && v.Kind == api.TypeInt:
		return text(strconv.Itoa(v.N))
	case to == api.TypeText:
		return text(strconv.FormatBool(v.N == 1))
	case to == api.TypeBool && v.N != 0:
		return truth(1)
	}
	return api.Value{Kind: to, N: v.N}
}

// drawn of a kind; now and then of another one, or a wrong one.
func drawn(r *rand.Rand, kind int) api.Value {
	if r.Intn(60) == 0 {
		return list(truth(2), api.Value{Kind: 4})[r.Intn(2)]
	}
	if r.Intn(40) == 0 {
		kind = 1 + r.Intn(3)
	}
	switch kind {
	case api.TypeInt:
		return list(none, number(0), number(1), number(-9), number(9))[r.Intn(5)]
	case api.TypeText:
		return list(none, text(""), text("1"), text("-9"), text("true"), text("false"), text("x"), text("xy"))[r.Intn(8)]
	}
	return list(none, truth(0), truth(1))[r.Intn(3)]
}

func (m *model) drawnRow(r *rand.Rand) []api.Value {
	var l []api.Value
	for _, c := range m.columns {
		l = append(l, drawn(r, c.kind))
	}
	switch r.Intn(40) {
	case 0:
		return l[1:]
	case 1:
		return append(l, none)
	}
	return l
}

func (m *model) drawnNumbers(r *rand.Rand) []int {
	var l []int
	for _, h := range m.rows {
		if r.Intn(4) == 0 {
			l = append(l, h.stored.Number)
		}
	}
	switch r.Intn(20) {
	case 0:
		l = append(l, r.Intn(m.next+2)-1)
	case 1:
		slices.Reverse(l)
	}
	return l
}

func (m *model) drawnDelta(r *rand.Rand) (api.Delta, string) {
	d, name := api.Delta{Kind: 1 + r.Intn(3)}, ""
	switch d.Kind {
	case api.DeltaAdd:
		d.Type = 1 + r.Intn(3)
		d.Value = drawn(r, d.Type)
		name = []string{"a", "b", "c", "d", "e", "f", "to", ""}[r.Intn(8)]
	case api.DeltaTake:
		d.At = r.Intn(len(m.columns))
	case api.DeltaRetype:
		d.At, d.Type = r.Intn(len(m.columns)), 1+r.Intn(3)
	}
	switch r.Intn(60) {
	case 0:
		d.Kind = r.Intn(6) - 1
	case 1:
		d.At = r.Intn(9) - 2
	case 2:
		d.Type = r.Intn(6) - 1
	case 3:
		d.Value = drawn(r, api.TypeInt)
	case 4:
		name = []string{"a", "g", "to", ""}[r.Intn(4)]
	}
	return d, name
}

// drawIndex: one more, or one that is built some rows further or not so far; that is no call of tables.
func (m *model) drawIndex(r *rand.Rand) {
	if len(m.indexes) < api.MaxIndexes && r.Intn(2) == 0 {
		name := fmt.Sprintf("i%d", r.Intn(1000000))
		m.indexes = append(m.indexes, &built{name, m.columns[r.Intn(len(m.columns))], 1})
	}
	for _, b := range m.indexes {
		if r.Intn(2) == 0 {
			b.upTo = 1 + r.Intn(m.next)
		}
		if r.Intn(3) == 0 {
			b.upTo = m.next
		}
	}
}

// step: a call that is drawn, of the table and of the model: what both say of it.
func (m *model) step(r *rand.Rand, x api.Table) (api.Table, api.Errno, api.Errno) {
	switch k := r.Intn(12); {
	case k < 6:
		l := m.drawnRow(r)
		got, e := Insert(x, l)
		return got, e, m.insert(l)
	case k < 8:
		numbers := m.drawnNumbers(r)
		got, e := Delete(x, numbers)
		return got, e, m.delete(numbers)
	case k < 10:
		numbers, at := m.drawnNumbers(r), r.Intn(len(m.columns))
		var l []api.Value
		for range numbers {
			l = append(l, drawn(r, m.columns[at].kind))
		}
		switch r.Intn(30) {
		case 0:
			at = r.Intn(9) - 2
		case 1:
			l = append(l, none)
		}
		got, e := Update(x, numbers, at, l)
		return got, e, m.update(numbers, at, l)
	}
	d, name := m.drawnDelta(r)
	got, e := Alter(x, d, name)
	return got, e, m.alter(d, name)
}

func begun(r *rand.Rand) *model {
	m := &model{next: 1 + r.Intn(3)}
	for _, name := range []string{"a", "b", "c"}[:1+r.Intn(3)] {
		m.columns = append(m.columns, &column{name, 1 + r.Intn(3)})
	}
	return m
}

func TestH2AgainstAnotherWayOfTelling(t *testing.T) {
	r := rand.New(rand.NewSource(1))
	seen := map[api.Errno]int{}
	for range 600 {
		m := begun(r)
		x := m.table()
		for range 60 {
			if r.Intn(6) == 0 {
				m.drawIndex(r)
				x = m.table()
			}
			got, e, want := m.step(r, x)
			seen[e]++
			if e != want || e != api.OK && !same(got, api.Table{}) {
				t.Fatalf("it is %+v, %d; want %d", got, e, want)
			}
			if e == api.OK {
				x = got
			}
			if !same(x, m.table()) {
				t.Fatalf("it is %+v;\nwant %+v", x, m.table())
			}
			wantCheck(t, x, api.OK)
			numbers, rows := m.read()
			wantRead(t, x, numbers, rows)
		}
	}
	for _, e := range []api.Errno{api.OK, api.ErrForm, api.ErrMany, api.ErrRange, api.ErrState, api.ErrNone, api.ErrTwice, api.ErrKind} {
		if seen[e] < 20 {
			t.Errorf("too little was tried: %v", seen)
		}
	}
}

// drawnTable: one that many steps have led to.
func drawnTable(r *rand.Rand) (*model, api.Table) {
	m := begun(r)
	for range r.Intn(40) {
		m.step(r, m.table())
		if r.Intn(6) == 0 {
			m.drawIndex(r)
		}
	}
	return m, m.table()
}

// What is read behind a delta is what was read, behind it; and rows lie there as they did.
func TestH4ReadBehindADelta(t *testing.T) {
	r := rand.New(rand.NewSource(2))
	many := map[int]int{}
	for range 4000 {
		m, x := drawnTable(r)
		d, name := m.drawnDelta(r)
		got, e := Alter(x, d, name)
		if e != api.OK {
			continue
		}
		many[d.Kind] += len(x.Rows)
		if !slices.Equal(got.Rows, x.Rows) || got.Next != x.Next || !slices.Equal(got.Deltas[:len(x.Deltas)], x.Deltas) {
			t.Fatalf("%+v was %+v", got, x)
		}
		numbers, rows, _ := Read(x)
		for i := range rows {
			rows[i], e = delta.Apply(rows[i], got.Deltas[len(x.Deltas):])
			if e != api.OK {
				t.Fatal(e)
			}
		}
		wantRead(t, got, numbers, rows)
	}
	for kind := api.DeltaAdd; kind <= api.DeltaRetype; kind++ {
		if many[kind] < 1000 {
			t.Errorf("too little was tried: %v", many)
		}
	}
}

// A row of any version is read as the same row is that was written anew in the newest one.
func TestH4VersionsAreNotSeen(t *testing.T) {
	r := rand.New(rand.NewSource(3))
	for range 1500 {
		_, x := drawnTable(r)
		numbers, rows, _ := Read(x)
		anew := x
		anew.Rows = nil
		for i, n := range numbers {
			anew.Rows = append(anew.Rows, api.Stored{Number: n, Version: len(x.Deltas), Bytes: bytes(rows[i]...)})
		}
		wantCheck(t, anew, api.OK)
		wantRead(t, anew, numbers, rows)
	}
}
