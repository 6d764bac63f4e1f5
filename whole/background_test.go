// Package whole: tests of promises that bind several layers together, by long scripts that are drawn.
package whole

import (
	"math/rand"
	"reflect"
	"slices"
	"testing"

	"overhaul/api"
	"overhaul/engine"
	"overhaul/plan"
	"overhaul/table"
	"overhaul/tick"
)

func do(t *testing.T, e api.Engine, c api.Cmd) (api.Engine, api.Answer) {
	t.Helper()
	got, a, f := engine.Do(e, c)
	if f != api.OK {
		t.Fatalf("%+v of %+v: it is %d", c, e, f)
	}
	return got, a
}

// ticked: an engine behind so many ticks.
func ticked(t *testing.T, e api.Engine, many int) api.Engine {
	t.Helper()
	for range many {
		next, _, f := tick.Tick(e)
		if f != api.OK || engine.Check(next) != api.OK {
			t.Fatalf("Tick of %+v: it is %+v, %d", e, next, f)
		}
		e = next
	}
	return e
}

// behindErrMany: may an answer that was ErrMany be this one, once all deltas are gone?
func behindErrMany(kind int, f api.Errno) bool {
	switch kind {
	case api.CmdAdd:
		return f == api.OK || f == api.ErrTwice || f == api.ErrKind
	case api.CmdTake:
		return f == api.OK || f == api.ErrState
	case api.CmdRetype:
		return f == api.OK
	}
	return false
}

// Two engines are told the same commands; between these one of them has ticks.
func TestL3NoAnswerIsOtherForATick(t *testing.T) {
	d := drawer{rand.New(rand.NewSource(1))}
	seen := map[api.Errno]int{}
	rows, freed, greatest := 0, 0, 0
	for script := range 60 {
		var plain, other api.Engine
		for k := range 240 {
			other = ticked(t, other, d.Intn(1+script%4))
			s := d.text(plain)
			c := parsed(t, s)
			next, a := do(t, plain, c)
			nextOther, b := do(t, other, c)
			seen[a.Errno]++
			rows += len(a.Rows)
			if a.Errno == api.ErrMany && b.Errno != api.ErrMany {
				freed++
				if !behindErrMany(c.Kind, b.Errno) {
					t.Fatalf("%s: it is %+v; without a tick it is %+v", s, b, a)
				}
				// From here on both are what the one with ticks is.
				next = nextOther
			} else if !reflect.DeepEqual(a, b) {
				t.Fatalf("%s: it is %+v; without a tick it is %+v", s, b, a)
			}
			plain, other = next, nextOther
			if k%16 == 0 {
				_, many, _ := tick.Clean(plain)
				greatest = max(greatest, many)
			}
		}
	}
	if greatest > 100 || greatest < 20 {
		t.Errorf("%d ticks led to where all was clean", greatest)
	}
	for _, f := range []api.Errno{api.OK, api.ErrForm, api.ErrMany, api.ErrState, api.ErrNone, api.ErrTwice, api.ErrKind} {
		if seen[f] < 10 {
			t.Errorf("too little was tried: %v", seen)
		}
	}
	if rows < 500 || freed < 10 {
		t.Errorf("too little was tried: %d, %d", rows, freed)
	}
}

// unindexed: an engine without indexes.
func unindexed(e api.Engine) api.Engine {
	e.Tables = slices.Clone(e.Tables)
	for i := range e.Tables {
		e.Tables[i].Indexes = nil
	}
	return e
}

// way told another way: where a condition stands in a line of parts with `and` between, the first part that an index helps with.
func way(x api.Table, e api.Expr) (api.Plan, bool) {
	if e.Kind == api.ExprAnd {
		if p, is := way(x, e.Args[0]); is {
			return p, true
		}
		return way(x, e.Args[1])
	}
	if e.Kind != api.ExprSame {
		return api.Plan{}, false
	}
	for turn := range 2 {
		a, b := e.Args[turn], e.Args[1-turn]
		for _, i := range x.Indexes {
			if a.Kind == api.ExprColumn && b.Kind == api.ExprValue && b.Value.Kind != 0 && x.Columns[i.At].Name == a.Name && i.Built == x.Next {
				return api.Plan{Index: i.Name, Key: keyOf(b.Value)}, true
			}
		}
	}
	return api.Plan{}, false
}

func keyOf(v api.Value) string {
	switch v.Kind {
	case api.TypeInt:
		digits := make([]byte, 10)
		for i, n := 9, v.N+1000000000; i >= 0; i, n = i-1, n/10 {
			digits[i] = byte('0' + n%10)
		}
		return "1" + string(digits)
	case api.TypeText:
		return "2" + v.S
	}
	return "3" + string(rune('0'+v.N))
}

// wantSameRows: what is found by an index is found without one, and is what the command itself means.
func wantSameRows(t *testing.T, e api.Engine, s string) (int, api.Plan) {
	t.Helper()
	c := parsed(t, s)
	p, f := plan.Explain(e, c)
	l, g := plan.Rows(e, c)
	none, h := plan.Explain(unindexed(e), c)
	same, i := plan.Rows(unindexed(e), c)
	_, a := do(t, e, c)
	if f != a.Errno || g != a.Errno || h != a.Errno || i != a.Errno || none != (api.Plan{}) || !slices.Equal(l, same) || !slices.IsSorted(l) {
		t.Fatalf("%s of %+v: they are %q, %d, %v, %d, and %q, %d, %v, %d", s, e, p, f, l, g, none, h, same, i)
	}
	if f != api.OK {
		return 0, p
	}
	var x api.Table
	for _, other := range e.Tables {
		if other.Name == c.Name {
			x = other
		}
	}
	if want, _ := way(x, c.Where); p != want {
		t.Fatalf("%s of %+v: it is %q; want %q", s, e, p, want)
	}
	wantMeant(t, s, x, c, l, a)
	return len(l), p
}

// wantMeant: of which rows a command is, its answer tells.
func wantMeant(t *testing.T, s string, x api.Table, c api.Cmd, l []int, a api.Answer) {
	t.Helper()
	if c.Kind != api.CmdSelect {
		if a.Many != len(l) {
			t.Fatalf("%s of %+v: they are %v; want %d", s, x, l, a.Many)
		}
		return
	}
	if len(c.Fields) > 0 || c.Order != "" || c.Limit >= 0 {
		return
	}
	numbers, rows, _ := table.Read(x)
	var meant [][]api.Value
	for i, number := range numbers {
		if slices.Contains(l, number) {
			meant = append(meant, rows[i])
		}
	}
	if !slices.EqualFunc(meant, a.Rows, slices.Equal[[]api.Value]) {
		t.Fatalf("%s of %+v: they are %v; want %v", s, x, meant, a.Rows)
	}
}

// By an index the same is found as without it, whatever led to it, and however many ticks.
func TestK3ByAnIndexTheSameIsFound(t *testing.T) {
	d := drawer{rand.New(rand.NewSource(2))}
	byOne, found, several := 0, 0, 0
	for script := range 60 {
		var e api.Engine
		for range 100 {
			e, _ = do(t, e, parsed(t, d.text(e)))
			e = ticked(t, e, d.Intn(1+script%5))
			for range 4 {
				many, p := wantSameRows(t, e, d.looking(d.table(e)))
				if p.Index != "" {
					byOne++
					found += min(many, 1)
				}
				if p.Index != "" && many > 3 {
					several++
				}
			}
		}
	}
	if byOne < 1000 || found < 300 || several < 30 {
		t.Errorf("too little was tried: %d, %d, %d", byOne, found, several)
	}
}
