package engine

import (
	"cmp"
	"math/rand"
	"reflect"
	"slices"
	"testing"

	"overhaul/api"
	"overhaul/expr"
	"overhaul/index"
	"overhaul/table"
	"overhaul/value"
)

// model: an engine told another way: rows are what they are now, whatever version they are stored in.
type model struct {
	tables, saved []*held
	within        bool
}

type held struct {
	name    string
	columns []api.Column
	deltas  int
	rows    []heldRow
	next    int
	indexes []heldIndex
}

type heldRow struct {
	number, version int
	is              []api.Value
}

type heldIndex struct {
	name, column string
	built        int
}

func copiedTables(l []*held) []*held {
	var all []*held
	for _, h := range l {
		x := *h
		x.columns, x.indexes, x.rows = slices.Clone(h.columns), slices.Clone(h.indexes), slices.Clone(h.rows)
		for i := range x.rows {
			x.rows[i].is = slices.Clone(x.rows[i].is)
		}
		all = append(all, &x)
	}
	return all
}

func (m *model) table(name string) *held {
	for _, h := range m.tables {
		if h.name == name {
			return h
		}
	}
	return nil
}

func (m *model) indexes() []string {
	var l []string
	for _, h := range m.tables {
		for _, x := range h.indexes {
			l = append(l, x.name)
		}
	}
	return l
}

// column: place of one; below 0, if there is none.
func (h *held) column(name string) int {
	for i, c := range h.columns {
		if c.Name == name {
			return i
		}
	}
	return -1
}

// condition of an error, in the order in which the chapter names them.
type condition struct {
	holds bool
	errno api.Errno
}

func first(l ...condition) api.Errno {
	for _, c := range l {
		if c.holds {
			return c.errno
		}
	}
	return api.OK
}

func (m *model) do(c api.Cmd) api.Answer {
	switch c.Kind {
	case api.CmdCreate:
		return m.create(c)
	case api.CmdUnindex:
		return m.unindex(c)
	case api.CmdBegin:
		if m.within {
			return api.Answer{Errno: api.ErrState}
		}
		m.within, m.saved = true, copiedTables(m.tables)
		return api.Answer{}
	case api.CmdCommit, api.CmdRollback:
		if !m.within {
			return api.Answer{Errno: api.ErrState}
		}
		if c.Kind == api.CmdRollback {
			m.tables = m.saved
		}
		m.within, m.saved = false, nil
		return api.Answer{}
	}
	name := c.Name
	if c.Kind == api.CmdIndex {
		name = c.Other
	}
	h := m.table(name)
	if h == nil {
		return api.Answer{Errno: api.ErrNone}
	}
	switch c.Kind {
	case api.CmdDelete, api.CmdUpdate, api.CmdSelect:
		return h.rowsOf(c)
	case api.CmdInsert:
		return h.insert(c)
	}
	return m.change(h, c)
}

func (m *model) create(c api.Cmd) api.Answer {
	names := map[string]int{}
	for _, x := range c.Columns {
		names[x.Name]++
	}
	e := first(
		condition{m.table(c.Name) != nil, api.ErrTwice},
		condition{len(m.tables) >= api.MaxTables, api.ErrMany},
		condition{len(names) < len(c.Columns), api.ErrTwice})
	if e == api.OK {
		m.tables = append(m.tables, &held{name: c.Name, columns: slices.Clone(c.Columns), next: 1})
	}
	return api.Answer{Errno: e}
}

func (m *model) unindex(c api.Cmd) api.Answer {
	if !slices.Contains(m.indexes(), c.Name) {
		return api.Answer{Errno: api.ErrNone}
	}
	for _, h := range m.tables {
		h.indexes = slices.DeleteFunc(h.indexes, func(x heldIndex) bool { return x.name == c.Name })
	}
	return api.Answer{}
}

// change of what a table is.
func (m *model) change(h *held, c api.Cmd) api.Answer {
	at := h.column(c.Column)
	isThere := at >= 0
	deltas := condition{h.deltas >= api.MaxDeltas, api.ErrMany}
	noColumn := condition{!isThere, api.ErrNone}
	var l []condition
	switch c.Kind {
	case api.CmdAdd:
		l = []condition{deltas, {len(h.columns) >= api.MaxColumns, api.ErrMany}, {isThere, api.ErrTwice}, {c.Value != none && c.Value.Kind != c.Type, api.ErrKind}}
	case api.CmdTake:
		l = []condition{noColumn, deltas, {len(h.columns) == 1, api.ErrState}}
	case api.CmdRetype:
		l = []condition{noColumn, deltas}
	case api.CmdColumn:
		l = []condition{noColumn, {h.column(c.Other) >= 0 && h.column(c.Other) != at, api.ErrTwice}}
	case api.CmdTable:
		l = []condition{{m.table(c.Other) != nil && m.table(c.Other) != h, api.ErrTwice}}
	case api.CmdIndex:
		l = []condition{noColumn, {slices.Contains(m.indexes(), c.Name), api.ErrTwice}, {len(m.indexes()) >= api.MaxIndexes, api.ErrMany}}
	}
	if e := first(l...); e != api.OK {
		return api.Answer{Errno: e}
	}
	switch c.Kind {
	case api.CmdDrop:
		m.tables = slices.DeleteFunc(m.tables, func(x *held) bool { return x == h })
	case api.CmdAdd, api.CmdTake, api.CmdRetype:
		h.alter(c, at)
	case api.CmdColumn:
		h.columns[at].Name = c.Other
		for i := range h.indexes {
			if h.indexes[i].column == c.Column {
				h.indexes[i].column = c.Other
			}
		}
	case api.CmdTable:
		h.name = c.Other
	case api.CmdIndex:
		h.indexes = append(h.indexes, heldIndex{c.Name, c.Column, 1})
	}
	return api.Answer{}
}

func (h *held) alter(c api.Cmd, at int) {
	h.deltas++
	switch c.Kind {
	case api.CmdAdd:
		h.columns = append(h.columns, api.Column{Name: c.Column, Type: c.Type})
		for i := range h.rows {
			h.rows[i].is = append(h.rows[i].is, c.Value)
		}
	case api.CmdTake:
		h.columns = slices.Delete(h.columns, at, at+1)
		for i := range h.rows {
			h.rows[i].is = slices.Delete(h.rows[i].is, at, at+1)
		}
		h.indexes = slices.DeleteFunc(h.indexes, func(x heldIndex) bool { return x.column == c.Column })
	case api.CmdRetype:
		h.columns[at].Type = c.Type
		for i := range h.rows {
			h.rows[i].is[at], _ = value.Cast(h.rows[i].is[at], c.Type)
		}
		for i := range h.indexes {
			if h.indexes[i].column == c.Column {
				h.indexes[i].built = 1
			}
		}
	}
}

func (h *held) insert(c api.Cmd) api.Answer {
	isOther := false
	for i := range min(len(c.Values), len(h.columns)) {
		isOther = isOther || c.Values[i] != none && c.Values[i].Kind != h.columns[i].Type
	}
	e := first(
		condition{len(c.Values) != len(h.columns), api.ErrForm},
		condition{isOther, api.ErrKind},
		condition{len(h.rows) >= api.MaxRows, api.ErrMany})
	if e != api.OK {
		return api.Answer{Errno: e}
	}
	for i := range h.indexes {
		if h.indexes[i].built == h.next {
			h.indexes[i].built++
		}
	}
	h.rows = append(h.rows, heldRow{h.next, h.deltas, slices.Clone(c.Values)})
	h.next++
	return api.Answer{}
}

// rowsOf a command that has a condition.
func (h *held) rowsOf(c api.Cmd) api.Answer {
	at := h.column(c.Column)
	noField := slices.ContainsFunc(c.Fields, func(s string) bool { return h.column(s) < 0 })
	where, f := expr.Kind(h.columns, c.Where)
	of, g := expr.Kind(h.columns, c.Expr)
	isUpdate := c.Kind == api.CmdUpdate
	e := first(
		condition{isUpdate && at < 0, api.ErrNone},
		condition{noField, api.ErrNone},
		condition{c.Order != "" && h.column(c.Order) < 0, api.ErrNone},
		condition{!c.All && f != api.OK, f},
		condition{!c.All && where != 0 && where != api.TypeBool, api.ErrState},
		condition{isUpdate && g != api.OK, g},
		condition{isUpdate && at >= 0 && of != 0 && of != h.columns[max(at, 0)].Type, api.ErrKind})
	if e != api.OK {
		return api.Answer{Errno: e}
	}
	var in, out []heldRow
	for _, r := range h.rows {
		if is, _ := expr.Holds(h.columns, r.is, c.Where); c.All || is {
			in = append(in, r)
		} else {
			out = append(out, r)
		}
	}
	switch c.Kind {
	case api.CmdDelete:
		h.rows = out
	case api.CmdUpdate:
		h.set(in, at, c.Expr)
	case api.CmdSelect:
		return api.Answer{Rows: h.chosen(in, c)}
	}
	return api.Answer{Many: len(in)}
}

func (h *held) set(in []heldRow, at int, e api.Expr) {
	for _, r := range in {
		v, _ := expr.Eval(h.columns, r.is, e)
		i := slices.IndexFunc(h.rows, func(x heldRow) bool { return x.number == r.number })
		h.rows[i].is[at], h.rows[i].version = v, h.deltas
	}
}

// chosen rows: one is taken after the other, each time the first one of the least value.
func (h *held) chosen(in []heldRow, c api.Cmd) [][]api.Value {
	by := h.column(c.Order)
	isLess := func(v, w api.Value) bool {
		return cmp.Or(cmp.Compare(v.Kind, w.Kind), cmp.Compare(v.N, w.N), cmp.Compare(v.S, w.S)) < 0
	}
	var l [][]api.Value
	for len(in) > 0 && (c.Limit < 0 || len(l) < c.Limit) {
		least := 0
		for i := range in {
			if by >= 0 && isLess(in[i].is[by], in[least].is[by]) {
				least = i
			}
		}
		var fields []api.Value
		for _, s := range c.Fields {
			fields = append(fields, in[least].is[h.column(s)])
		}
		if len(c.Fields) == 0 {
			fields = in[least].is
		}
		l = append(l, slices.Clone(fields))
		in = slices.Delete(slices.Clone(in), least, least+1)
	}
	return l
}

// wantTables: are these the tables of the model?
func wantTables(t *testing.T, l []api.Table, want []*held) {
	t.Helper()
	if len(l) != len(want) {
		t.Fatalf("there are %d; want %d", len(l), len(want))
	}
	for i, h := range want {
		x := l[i]
		if x.Name != h.name || !slices.Equal(x.Columns, h.columns) || len(x.Deltas) != h.deltas || x.Next != h.next || len(x.Rows) != len(h.rows) || len(x.Indexes) != len(h.indexes) {
			t.Fatalf("it is %+v; want %+v", x, h)
		}
		_, rows, _ := table.Read(x)
		for i, r := range h.rows {
			if x.Rows[i].Number != r.number || x.Rows[i].Version != r.version || !slices.Equal(rows[i], r.is) {
				t.Fatalf("it is %+v, read as %v; want %+v", x.Rows[i], rows[i], r)
			}
		}
		for i, want := range h.indexes {
			if got := x.Indexes[i]; got.Name != want.name || got.At != h.column(want.column) || got.Built != want.built {
				t.Fatalf("it is %+v; want %+v", got, want)
			}
		}
	}
}

// build some rows of an index that is drawn, in the engine and in the model; that is no command.
func build(r *rand.Rand, e api.Engine, m *model) api.Engine {
	for i, h := range m.tables {
		for k := range h.indexes {
			if r.Intn(3) == 0 {
				x, _ := index.Build(e.Tables[i], k, 1+r.Intn(6))
				e.Tables[i], h.indexes[k].built = x, x.Indexes[k].Built
			}
		}
	}
	return e
}

func sameRows(a, b [][]api.Value) bool { return slices.EqualFunc(a, b, slices.Equal[[]api.Value]) }

func TestJ2AgainstAnotherWayOfTelling(t *testing.T) {
	d := drawer{rand.New(rand.NewSource(1))}
	type outcome struct {
		kind  int
		errno api.Errno
	}
	seen := map[outcome]int{}
	for range 100 {
		m, e := &model{}, api.Engine{}
		for range 200 {
			c := d.command(m)
			got, a, f := Do(e, c)
			want := m.do(c)
			if f != api.OK || a.Errno != want.Errno || a.Many != want.Many || !sameRows(a.Rows, want.Rows) {
				t.Fatalf("%+v of %+v: it is %+v, %d; want %+v", c, e, a, f, want)
			}
			seen[outcome{c.Kind, a.Errno}]++
			if got.Within != m.within || Check(got) != api.OK {
				t.Fatalf("it is %+v", got)
			}
			wantTables(t, got.Tables, m.tables)
			wantTables(t, got.Saved, m.saved)
			e = build(d.Rand, got, m)
		}
	}
	for kind, errnos := range map[int][]api.Errno{
		api.CmdCreate: {api.OK, api.ErrTwice, api.ErrMany}, api.CmdDrop: {api.OK, api.ErrNone},
		api.CmdAdd: {api.OK, api.ErrNone, api.ErrMany, api.ErrTwice, api.ErrKind}, api.CmdTake: {api.OK, api.ErrNone, api.ErrMany, api.ErrState},
		api.CmdColumn: {api.OK, api.ErrNone, api.ErrTwice}, api.CmdRetype: {api.OK, api.ErrNone, api.ErrMany}, api.CmdTable: {api.OK, api.ErrNone, api.ErrTwice},
		api.CmdIndex: {api.OK, api.ErrNone, api.ErrTwice, api.ErrMany}, api.CmdUnindex: {api.OK, api.ErrNone},
		api.CmdInsert: {api.OK, api.ErrNone, api.ErrForm, api.ErrKind, api.ErrMany}, api.CmdDelete: {api.OK, api.ErrNone, api.ErrState},
		api.CmdUpdate: {api.OK, api.ErrNone, api.ErrState, api.ErrKind}, api.CmdSelect: {api.OK, api.ErrNone, api.ErrState},
		api.CmdBegin: {api.OK, api.ErrState}, api.CmdCommit: {api.OK, api.ErrState}, api.CmdRollback: {api.OK, api.ErrState},
	} {
		for _, errno := range errnos {
			if n := seen[outcome{kind, errno}]; n < 5 {
				t.Errorf("too little was tried: of kind %d %s %d times", kind, errnoName(errno), n)
			}
		}
	}
}

// Whatever comes between, a transaction that is rolled back is as if it had not been, with all that is stored.
func TestJ3AgainstWhatWas(t *testing.T) {
	d := drawer{rand.New(rand.NewSource(2))}
	changed := 0
	for range 150 {
		m, e := &model{}, api.Engine{}
		step := func() {
			c := d.command(m)
			if c.Kind < api.CmdBegin {
				e, _, _ = Do(e, c)
				m.do(c)
			}
		}
		for range 40 + d.Intn(40) {
			step()
		}
		was := emptied(e)
		e, _, _ = Do(e, api.Cmd{Kind: api.CmdBegin})
		for range d.Intn(30) {
			step()
			e = build(d.Rand, e, m)
		}
		if !reflect.DeepEqual(emptied(e).Tables, was.Tables) {
			changed++
		}
		e, a, f := Do(e, api.Cmd{Kind: api.CmdRollback})
		if a.Errno != api.OK || f != api.OK {
			t.Fatalf("it is %+v, %d", a, f)
		}
		wantSame(t, "rollback", e, was)
	}
	if changed < 100 {
		t.Errorf("too little was tried: %d", changed)
	}
}
