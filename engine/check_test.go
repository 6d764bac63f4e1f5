package engine

import (
	"strconv"
	"testing"

	"overhaul/api"
)

// tableOf a name, with indexes of these names.
func tableOf(name string, indexes ...string) api.Table {
	x := api.Table{Name: name, Columns: []api.Column{{Name: "a", Type: api.TypeInt}}, Next: 1}
	for _, s := range indexes {
		x.Indexes = append(x.Indexes, api.Index{Name: s, Built: 1})
	}
	return x
}

func tablesOf(names ...string) []api.Table {
	var l []api.Table
	for _, name := range names {
		l = append(l, tableOf(name))
	}
	return l
}

func wantCheck(t *testing.T, what string, e api.Engine, want api.Errno) {
	t.Helper()
	if f := Check(e); f != want {
		t.Errorf("%s: it is %s; want %s", what, errnoName(f), errnoName(want))
	}
}

// Tables and Saved are held against each other in nothing; nor are names of tables against those of indexes.
func TestJ1Right(t *testing.T) {
	for i, e := range []api.Engine{
		{},
		{Within: true},
		{Tables: []api.Table{}, Saved: []api.Table{}},
		{Tables: tablesOf("t", "u", "v", "w")},
		{Within: true, Saved: tablesOf("t", "u", "v", "w")},
		{Within: true, Tables: tablesOf("t", "u", "v", "w"), Saved: tablesOf("t", "u", "v", "w")},
		{Tables: []api.Table{tableOf("t", "t", "u", "a"), tableOf("u", "i")}},
		{Tables: []api.Table{tableOf("t", "i", "j", "k", "l"), tableOf("u")}},
		{Within: true, Tables: []api.Table{tableOf("t", "i", "j"), tableOf("u", "k", "l")}, Saved: []api.Table{tableOf("t", "i", "j", "k", "l")}},
		birds(t),
	} {
		wantCheck(t, strconv.Itoa(i), e, api.OK)
	}
}

// change of an engine that makes it wrong.
type change struct {
	what  string
	do    func(*api.Engine)
	errno api.Errno
}

// Each of these tells ahead of all that stand behind it: Tables and Saved are each gone through as a whole, Tables first.
func TestJ1ErrorsInOrder(t *testing.T) {
	l := []change{
		{"five tables", func(e *api.Engine) { e.Tables = append(e.Tables, make([]api.Table, 5)...) }, api.ErrMany},
		{"five saved", func(e *api.Engine) { e.Saved = append(e.Saved, make([]api.Table, 5)...) }, api.ErrMany},
		{"a table", func(e *api.Engine) { e.Tables[0].Next = 0 }, api.ErrRange},
		{"another table", func(e *api.Engine) { e.Tables[1].Columns[0].Type = 4 }, api.ErrKind},
		{"a saved one", func(e *api.Engine) { e.Saved[0].Name = "" }, api.ErrForm},
		{"another saved one", func(e *api.Engine) { e.Saved[1].Next = 1000001 }, api.ErrRange},
		{"names of tables", func(e *api.Engine) { e.Tables[2].Name = "t" }, api.ErrTwice},
		{"names of indexes", func(e *api.Engine) { e.Tables[2].Indexes = append(e.Tables[2].Indexes, api.Index{Name: "i", Built: 1}) }, api.ErrTwice},
		{"five indexes", func(e *api.Engine) {
			e.Tables[1].Indexes = append(e.Tables[1].Indexes, tableOf("x", "o", "p").Indexes...)
		}, api.ErrMany},
		{"names of saved tables", func(e *api.Engine) { e.Saved[2].Name = "t" }, api.ErrTwice},
		{"names of saved indexes", func(e *api.Engine) { e.Saved[1].Indexes = append(e.Saved[1].Indexes, api.Index{Name: "i", Built: 1}) }, api.ErrTwice},
		{"five saved indexes", func(e *api.Engine) {
			e.Saved[2].Indexes = append(e.Saved[2].Indexes, tableOf("x", "o", "p").Indexes...)
		}, api.ErrMany},
		{"not within", func(e *api.Engine) { e.Within = false }, api.ErrState},
	}
	engine := func() api.Engine {
		l := func() []api.Table { return []api.Table{tableOf("t", "i", "j"), tableOf("u"), tableOf("v", "k")} }
		return api.Engine{Within: true, Tables: l(), Saved: l()}
	}
	for i, a := range l {
		e := engine()
		a.do(&e)
		wantCheck(t, a.what, e, a.errno)
		for _, b := range l[i+1:] {
			e := engine()
			b.do(&e)
			a.do(&e)
			wantCheck(t, a.what+" and "+b.what, e, a.errno)
		}
	}
}

func TestJ1Limits(t *testing.T) {
	five := api.Engine{Within: true, Tables: tablesOf("t", "u", "v", "w", "x")}
	wantCheck(t, "five tables", five, api.ErrMany)
	five.Tables, five.Saved = five.Saved, five.Tables
	wantCheck(t, "five saved ones", five, api.ErrMany)
	for _, l := range [][]api.Table{
		{tableOf("t", "i", "j", "k", "l"), tableOf("u", "m")},
		{tableOf("t", "i", "j"), tableOf("u", "k", "l"), tableOf("v", "m")},
		{tableOf("t"), tableOf("u", "i", "j", "k", "l"), tableOf("v", "m", "n", "o", "p")},
	} {
		wantCheck(t, "five indexes", api.Engine{Tables: l}, api.ErrMany)
		wantCheck(t, "five saved indexes", api.Engine{Within: true, Saved: l}, api.ErrMany)
	}
}

// Wherever the two stand, and whatever stands between.
func TestJ1Twice(t *testing.T) {
	for _, l := range [][]api.Table{
		tablesOf("t", "t"),
		tablesOf("t", "u", "v", "t"),
		tablesOf("u", "v", "t", "t"),
		{tableOf("t", "i"), tableOf("u", "i")},
		{tableOf("t", "i", "j"), tableOf("u"), tableOf("v", "k", "j")},
		{tableOf("t", "i", "j", "k", "l"), tableOf("u", "l")},
		{tableOf("t", "i", "i")},
	} {
		wantCheck(t, "twice", api.Engine{Tables: l}, api.ErrTwice)
		wantCheck(t, "twice", api.Engine{Within: true, Saved: l}, api.ErrTwice)
		wantCheck(t, "twice, not within", api.Engine{Saved: l}, api.ErrTwice)
	}
}

func TestJ1NotWithin(t *testing.T) {
	e := api.Engine{Saved: tablesOf("t")}
	wantCheck(t, "saved", e, api.ErrState)
	e.Tables = tablesOf("t")
	wantCheck(t, "the same saved", e, api.ErrState)
	e.Within = true
	wantCheck(t, "within", e, api.OK)
}
