package promises

import (
	"math"
	"math/rand"
	"reflect"
	"slices"
	"strings"
	"testing"

	"overhaul/api"
	"overhaul/command"
	"overhaul/delta"
	"overhaul/engine"
	"overhaul/expr"
	"overhaul/row"
	"overhaul/show"
	"overhaul/table"
	"overhaul/token"
	"overhaul/value"
)

// scan and parse without the place, which is told with an error, too.
func scan(s string) ([]api.Token, api.Errno) {
	l, _, e := token.Scan(s)
	return l, e
}

func parse(s string) (api.Cmd, api.Errno) {
	c, _, e := command.Parse(s)
	return c, e
}

// values of all kinds, right ones and wrong ones.
func values() []api.Value {
	return []api.Value{
		{}, {Kind: api.TypeInt}, {Kind: api.TypeInt, N: -7}, {Kind: api.TypeInt, N: api.MaxInt}, {Kind: api.TypeInt, N: -api.MaxInt}, {Kind: api.TypeText}, {Kind: api.TypeText, S: "-7"}, {Kind: api.TypeText, S: strings.Repeat("~", api.MaxQuoted)},
		{Kind: api.TypeBool}, {Kind: api.TypeBool, N: 1}, {Kind: 4}, {Kind: -1}, {N: 1}, {S: "x"}, {Kind: api.TypeInt, N: api.MaxInt + 1}, {Kind: api.TypeInt, N: math.MinInt}, {Kind: api.TypeText, S: "it's"}, {Kind: api.TypeText, S: "\n"},
		{Kind: api.TypeText, S: strings.Repeat("~", api.MaxQuoted+1)}, {Kind: api.TypeBool, N: 2}, {Kind: api.TypeBool, S: "x"},
	}
}

func callsOfTexts(s string) []call {
	l, _, _ := token.Scan(s)
	c, _, _ := command.Parse(s)
	return []call{
		{"Scan " + s, scan, []any{s}}, {"Join " + s, token.Join, []any{l}}, {"Parse " + s, parse, []any{s}}, {"Check " + s, command.Check, []any{c}}, {"Show " + s, show.Show, []any{c}}, {"Same " + s, show.Same, []any{c, c}},
	}
}

func callsOfValues() []call {
	var l []call
	for _, v := range values() {
		l = append(l, call{"Check", value.Check, []any{v}}, call{"Key", value.Key, []any{v}})
		for _, w := range values() {
			l = append(l, call{"Order", value.Order, []any{v, w}})
		}
		for kind := -1; kind < 5; kind++ {
			l = append(l, call{"Cast", value.Cast, []any{v, kind}})
		}
	}
	return l
}

// callsOfRows: of rows and columns of a table, as they are now and as they lie there.
func callsOfRows(x api.Table) []call {
	var l []call
	_, rows, _ := table.Read(x)
	for i, r := range rows {
		l = append(l, call{"Encode", row.Encode, []any{r}}, call{"Decode", row.Decode, []any{x.Rows[i].Bytes}})
		was, _ := row.Decode(x.Rows[i].Bytes)
		l = append(l, call{"Apply", delta.Apply, []any{was, x.Deltas[x.Rows[i].Version:]}})
		for _, s := range texts() {
			c, _, _ := command.Parse(s)
			for _, e := range []api.Expr{c.Where, c.Expr} {
				l = append(l, call{"Eval " + s, expr.Eval, []any{x.Columns, r, e}}, call{"Holds " + s, expr.Holds, []any{x.Columns, r, e}}, call{"Kind " + s, expr.Kind, []any{x.Columns, e}})
			}
		}
	}
	return append(l, call{"Check", delta.Check, []any{len(x.Columns), x.Deltas}})
}

// callsThatChange a table, or read it.
func callsThatChange(x api.Table) []call {
	numbers, rows, _ := table.Read(x)
	l := []call{{"Check", table.Check, []any{x}}, {"Read", table.Read, []any{x}}, {"Delete", table.Delete, []any{x, numbers}}, {"Delete", table.Delete, []any{x, []int{3, 1, 9}}}}
	for _, r := range append(rows, []api.Value{{}, {}, {}}, []api.Value{}, make([]api.Value, len(x.Columns)), slices.Repeat([]api.Value{{Kind: api.TypeInt, N: 4}}, len(x.Columns))) {
		l = append(l, call{"Insert", table.Insert, []any{x, r}})
	}
	for at := -1; at <= len(x.Columns); at++ {
		l = append(l, call{"Update", table.Update, []any{x, numbers, at, make([]api.Value, len(numbers))}}, call{"Update", table.Update, []any{x, []int{1}, at, []api.Value{{Kind: 1 + at&1, N: 1 - at&1}}}})
		for kind := range 5 {
			l = append(l, call{"Alter", table.Alter, []any{x, api.Delta{Kind: kind, At: at, Type: api.TypeText}, ""}})
		}
	}
	return append(l, call{"Alter", table.Alter, []any{x, api.Delta{Kind: api.DeltaAdd, Type: api.TypeInt}, "new"}})
}

func TestP1P2P3OfTokensAndCommands(t *testing.T) {
	for _, s := range append(texts(), "", "x", "select * from", "insert into t values (01)", "'", "( ) ; || -", strings.Repeat("a ", 1000), strings.Repeat("a ", 1001)) {
		for _, c := range callsOfTexts(s) {
			wantAll(t, c)
		}
	}
	for _, l := range [][]api.Token{{}, {{}}, {{Kind: api.TokenName, At: 9, Text: "a"}}, {{Kind: api.TokenText, Text: strings.Repeat("x", api.MaxText)}}} {
		wantAll(t, call{"Join", token.Join, []any{l}})
	}
	for i, s := range texts() {
		for _, other := range texts()[:i] {
			c, _, _ := command.Parse(s)
			d, _, _ := command.Parse(other)
			wantAll(t, call{"Same", show.Same, []any{c, d}})
		}
	}
}

func TestP1P2P3OfValues(t *testing.T) {
	for _, c := range callsOfValues() {
		wantAll(t, c)
	}
	for _, v := range values() {
		wantAll(t, call{"Encode", row.Encode, []any{[]api.Value{{}, v}}})
		wantAll(t, call{"Apply", delta.Apply, []any{[]api.Value{{}, v}, []api.Delta{{Kind: api.DeltaAdd, Value: v}, {Kind: api.DeltaTake}, {Kind: api.DeltaRetype, At: 1, Type: api.TypeText}}}})
		wantAll(t, call{"Eval", expr.Eval, []any{[]api.Column{{Name: "a", Type: api.TypeInt}}, []api.Value{v}, api.Expr{Kind: api.ExprSame, Args: []api.Expr{{Kind: api.ExprColumn, Name: "a"}, {Kind: api.ExprValue, Value: v}}}}})
	}
}

func TestP1P2P3OfRowsAndTables(t *testing.T) {
	for _, e := range engines(t) {
		for _, x := range append(e.Tables, e.Saved...) {
			for _, c := range append(callsOfRows(x), callsThatChange(x)...) {
				wantAll(t, c)
			}
		}
	}
}

// junkedCall: some of what is handed in becomes something else.
func junkedCall(r *rand.Rand, c call) call {
	c.in = slices.Clone(c.in)
	at := r.Intn(len(c.in))
	v := deep(reflect.ValueOf(c.in[at]), 0)
	for range 1 + r.Intn(3) {
		junk(r, v)
	}
	c.in[at] = v.Interface()
	return c
}

// Whatever a call is handed: it ends, and the promises for all chapters hold.
func TestP1P2P3JunkOfAllCalls(t *testing.T) {
	r := rand.New(rand.NewSource(7))
	var all []call
	for _, s := range texts() {
		all = append(all, callsOfTexts(s)...)
	}
	all = append(all, callsOfValues()...)
	for _, e := range engines(t) {
		for _, x := range append(e.Tables, e.Saved...) {
			all = append(append(append(all, callsOfRows(x)...), callsThatChange(x)...), callsOfTables(x)...)
		}
		for _, s := range texts() {
			all = append(all, call{s, engine.Do, []any{e, parsed(t, s)}})
		}
	}
	seen := map[api.Errno]int{}
	for range 60000 {
		c := junkedCall(r, all[r.Intn(len(all))])
		wantAll(t, c)
		out := c.on(c.handedIn(0))
		if f, is := out[len(out)-1].Interface().(api.Errno); is {
			seen[f]++
		}
	}
	if len(seen) != 8 || seen[api.OK] < 1000 {
		t.Errorf("too little was tried: %v", seen)
	}
}

// Much that is handed in comes to its end, too, and soon.
func TestP4MuchOfTheFirstLayers(t *testing.T) {
	long := strings.Repeat("a", 100000000)
	for i, f := range []func() api.Errno{
		func() api.Errno { _, e := scan(long); return e },
		func() api.Errno { _, e := parse(long); return e },
		func() api.Errno { _, e := token.Join(make([]api.Token, 10000000)); return e },
		func() api.Errno { _, e := token.Join([]api.Token{{Kind: api.TokenName, Text: long}}); return e },
		func() api.Errno { return value.Check(api.Value{Kind: api.TypeText, S: long}) },
		func() api.Errno { _, e := value.Cast(api.Value{Kind: api.TypeText, S: long}, api.TypeInt); return e },
		func() api.Errno { _, e := row.Decode(long); return e },
		func() api.Errno { _, e := row.Encode(make([]api.Value, 10000000)); return e },
		func() api.Errno { _, e := delta.Apply(make([]api.Value, 10000000), nil); return e },
		func() api.Errno { _, e := delta.Check(0, make([]api.Delta, 10000000)); return e },
		func() api.Errno { _, e := expr.Kind(nil, nested(60000)); return e },
		func() api.Errno { _, e := expr.Eval(nil, nil, nested(60000)); return e },
		func() api.Errno { _, e := expr.Eval(nil, make([]api.Value, 10000000), nested(0)); return e },
		func() api.Errno {
			_, e := show.Show(api.Cmd{Kind: api.CmdDelete, Name: "t", Where: nested(60000)})
			return e
		},
		func() api.Errno { return table.Check(api.Table{Name: long}) },
		func() api.Errno { _, e := table.Insert(api.Table{Name: "t"}, make([]api.Value, 10000000)); return e },
	} {
		if f() == api.OK {
			t.Errorf("%d: it has no error", i)
		}
	}
	deep := api.Cmd{Kind: api.CmdDelete, Name: "t", Where: nested(60000)}
	if !show.Same(deep, deep) {
		t.Error("they are not the same")
	}
}
