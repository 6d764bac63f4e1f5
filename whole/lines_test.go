package whole

import (
	"math/rand"
	"reflect"
	"slices"
	"strings"
	"testing"

	"overhaul/api"
	"overhaul/command"
	"overhaul/delta"
	"overhaul/engine"
	"overhaul/expr"
	"overhaul/index"
	"overhaul/row"
	"overhaul/show"
	"overhaul/table"
	"overhaul/tick"
	"overhaul/token"
	"overhaul/value"
)

// drawn scripts, some with ticks between: each text, and the engine ahead of it.
func drawn(t *testing.T, seed int64, see func(drawer, api.Engine, string)) {
	t.Helper()
	d := drawer{rand.New(rand.NewSource(seed))}
	for script := range 40 {
		var e api.Engine
		for range 100 {
			s := d.text(e)
			see(d, e, s)
			e, _ = do(t, e, parsed(t, s))
			e = ticked(t, e, d.Intn(1+script%4))
		}
	}
}

func read(t *testing.T, x api.Table) ([]int, [][]api.Value) {
	t.Helper()
	numbers, rows, f := table.Read(x)
	if f != api.OK {
		t.Fatalf("%+v: it is %d", x, f)
	}
	return numbers, rows
}

func kindsAndTexts(l []api.Token) []api.Token {
	l = slices.Clone(l)
	for i := range l {
		l[i].At = 0
	}
	return l
}

// spaced: a text with other blanks, where there may be some.
func (d drawer) spaced(l []api.Token) string {
	var s strings.Builder
	for i, x := range l {
		if i > 0 {
			s.WriteString(d.oneOf(" ", "  ", "\t", "\n", " \n\t "))
		}
		s.WriteString(x.Text)
	}
	return s.String()
}

// What is joined is scanned as it was; what is parsed of it is the same command.
func TestA3WhatIsJoinedIsScannedAsItWas(t *testing.T) {
	many := 0
	drawn(t, 11, func(d drawer, e api.Engine, s string) {
		l, _, f := token.Scan(s)
		joined, g := token.Join(l)
		again, _, h := token.Scan(joined)
		if f != api.OK || g != api.OK || h != api.OK || !slices.Equal(kindsAndTexts(again), kindsAndTexts(l)) {
			t.Fatalf("%q: they are %+v, %d, %q, %d, %+v, %d", s, l, f, joined, g, again, h)
		}
		for _, other := range []string{joined, d.spaced(l)} {
			if len(other) <= api.MaxText && !show.Same(parsed(t, other), parsed(t, s)) {
				t.Fatalf("%q is not %q", other, s)
			}
		}
		many += len(l)
	})
	if many < 30000 {
		t.Errorf("too little was tried: %d", many)
	}
}

// What is shown is parsed to the same command, by which the same comes of an engine.
func TestD3WhatIsShownIsParsedToTheSame(t *testing.T) {
	kinds := map[int]int{}
	drawn(t, 12, func(d drawer, e api.Engine, s string) {
		c := parsed(t, s)
		shown, f := show.Show(c)
		again, at, g := command.Parse(shown)
		if f != api.OK || g != api.OK || !show.Same(c, again) {
			t.Fatalf("%q: it is %q, %d, %+v, %d at %d", s, shown, f, again, g, at)
		}
		if twice, _ := show.Show(again); twice != shown {
			t.Fatalf("%q: it is %q, then %q", s, shown, twice)
		}
		got, a := do(t, e, again)
		want, wanted := do(t, e, c)
		if !reflect.DeepEqual(a, wanted) || !reflect.DeepEqual(got, want) {
			t.Fatalf("%q: it is %+v, %+v; of %q it is %+v, %+v", s, want, wanted, shown, got, a)
		}
		kinds[c.Kind]++
	})
	if len(kinds) != api.CmdRollback {
		t.Errorf("too little was tried: %v", kinds)
	}
}

func key(t *testing.T, v api.Value) string {
	t.Helper()
	s, f := value.Key(v)
	if f != api.OK {
		t.Fatalf("%+v: it is %d", v, f)
	}
	return s
}

// Keys stand in order just as values do: those of whatever two values are read; and rows that are ordered by a column are ordered by its keys.
func TestB3KeysStandInOrderAsValuesDo(t *testing.T) {
	orders := map[int]int{}
	ordered := 0
	drawn(t, 13, func(d drawer, e api.Engine, s string) {
		x := d.table(e)
		_, rows, _ := table.Read(x)
		all := slices.Concat(rows...)
		for range min(len(all), 20) {
			v, w := all[d.Intn(len(all))], all[d.Intn(len(all))]
			n, f := value.Order(v, w)
			if f != api.OK || n != strings.Compare(key(t, v), key(t, w)) {
				t.Fatalf("%+v and %+v: it is %d, %d; keys are %q and %q", v, w, n, f, key(t, v), key(t, w))
			}
			orders[n]++
		}
		c := d.column(x)
		_, a := do(t, e, parsed(t, "select "+c.Name+" from "+x.Name+" order by "+c.Name))
		if !slices.IsSortedFunc(a.Rows, func(r, q []api.Value) int { return strings.Compare(key(t, r[0]), key(t, q[0])) }) {
			t.Fatalf("they are %+v", a.Rows)
		}
		ordered += len(a.Rows)
	})
	if orders[-1] < 1000 || orders[0] < 1000 || orders[1] < 1000 || ordered < 5000 {
		t.Errorf("too little was tried: %v, %d", orders, ordered)
	}
}

// What comes of an expression is of its kind, or nothing; so an update leaves each column of its kind.
func TestE3WhatComesIsOfItsKindOrNothing(t *testing.T) {
	kinds := map[int]int{}
	nothing := 0
	drawn(t, 14, func(d drawer, e api.Engine, _ string) {
		x := d.table(e)
		numbers, rows, _ := table.Read(x)
		c := parsed(t, d.looking(x))
		if c.Kind == api.CmdSelect || c.Kind == api.CmdDelete {
			c.Expr = c.Where
		}
		kind, f := expr.Kind(x.Columns, c.Expr)
		for i, r := range rows {
			v, g := expr.Eval(x.Columns, r, c.Expr)
			if f != g || f == api.OK && v.Kind != 0 && v.Kind != kind {
				t.Fatalf("%+v of row %d %+v: it is %+v, %d; of the kind %d, %d", c.Expr, numbers[i], r, v, g, kind, f)
			}
			if f == api.OK {
				kinds[v.Kind]++
			}
			if f == api.OK && kind != 0 && v.Kind == 0 {
				nothing++
			}
		}
	})
	if min(kinds[0], kinds[api.TypeInt], kinds[api.TypeText], kinds[api.TypeBool]) < 500 || nothing < 300 {
		t.Errorf("too little was tried: %v, %d", kinds, nothing)
	}
}

// altered: a few bytes of a text are others, more, or fewer.
func (d drawer) altered(s string) string {
	b := []byte(s)
	for range 1 + d.Intn(2) {
		at := d.Intn(len(b) + 1)
		switch d.Intn(4) {
		case 0:
			b = slices.Insert(b, at, byte(d.Intn(256)))
		case 1:
			b = b[:at]
		default:
			if at < len(b) {
				b[at] = []byte{0, 1, 2, 3, 4, byte(d.Intn(256))}[d.Intn(6)]
			}
		}
	}
	return string(b)
}

// What is encoded is decoded as it was, and nothing else is: whatever bytes are decoded, those come when the values are encoded.
func TestF2RowsAsBytes(t *testing.T) {
	whole, right, wrong := 0, 0, 0
	drawn(t, 15, func(d drawer, e api.Engine, _ string) {
		for _, x := range e.Tables {
			for _, r := range x.Rows {
				l, f := row.Decode(r.Bytes)
				s, g := row.Encode(l)
				if f != api.OK || g != api.OK || s != r.Bytes {
					t.Fatalf("%q: it is %+v, %d, %q, %d", r.Bytes, l, f, s, g)
				}
				whole++
				other := d.altered(r.Bytes)
				l, f = row.Decode(other)
				if f != api.OK {
					wrong++
					continue
				}
				if s, g := row.Encode(l); g != api.OK || s != other {
					t.Fatalf("%q: it is %+v, %q, %d", other, l, s, g)
				}
				right++
			}
		}
	})
	if whole < 10000 || right < 1000 || wrong < 1000 {
		t.Errorf("too little was tried: %d, %d, %d", whole, right, wrong)
	}
}

// Deltas in two parts, one behind the other, are all of them: so a row is read, whichever version its bytes are of.
func TestG3DeltasInTwoParts(t *testing.T) {
	parted := 0
	drawn(t, 16, func(d drawer, e api.Engine, _ string) {
		for _, x := range e.Tables {
			_, rows := read(t, x)
			for i, r := range x.Rows {
				was, _ := row.Decode(r.Bytes)
				l := x.Deltas[r.Version:]
				for cut := range len(l) + 1 {
					half, f := delta.Apply(was, l[:cut])
					got, g := delta.Apply(half, l[cut:])
					width, h := delta.Check(len(half), l[cut:])
					if f != api.OK || g != api.OK || h != api.OK || !slices.Equal(got, rows[i]) || width != len(x.Columns) {
						t.Fatalf("%+v at %d: it is %+v, %+v, %d, %d; want %+v", x, cut, half, got, f, g, rows[i])
					}
					parted += min(cut, len(l)-cut)
				}
			}
		}
	})
	if parted < 3000 {
		t.Errorf("too little was tried: %d", parted)
	}
}

func tableOf(e api.Engine, name string) api.Table {
	return e.Tables[slices.IndexFunc(e.Tables, func(x api.Table) bool { return x.Name == name })]
}

func bytesOf(x api.Table) []string {
	var l []string
	for _, r := range x.Rows {
		l = append(l, r.Bytes)
	}
	return l
}

// What is read behind a delta is what was read, behind it; no row's bytes are changed by it.
func TestH4WhatIsReadBehindADelta(t *testing.T) {
	kinds := map[int]int{}
	drawn(t, 17, func(d drawer, e api.Engine, s string) {
		c := parsed(t, s)
		then, a := do(t, e, c)
		if c.Kind < api.CmdAdd || c.Kind > api.CmdRetype || c.Kind == api.CmdColumn || a.Errno != api.OK {
			return
		}
		was, is := tableOf(e, c.Name), tableOf(then, c.Name)
		if len(is.Deltas) != len(was.Deltas)+1 || !slices.Equal(bytesOf(is), bytesOf(was)) {
			t.Fatalf("%s: it is %+v; it was %+v", s, is, was)
		}
		numbers, rows := read(t, was)
		got, now := read(t, is)
		for i, r := range rows {
			want, f := delta.Apply(r, is.Deltas[len(was.Deltas):])
			if f != api.OK || !slices.Equal(now[i], want) || got[i] != numbers[i] {
				t.Fatalf("%s: row %d is %+v; want %+v, %d", s, got[i], now[i], want, f)
			}
			kinds[c.Kind]++
		}
		if len(now) != len(rows) {
			t.Fatalf("%s: they are %v; want %v", s, got, numbers)
		}
	})
	if min(kinds[api.CmdAdd], kinds[api.CmdTake], kinds[api.CmdRetype]) < 200 {
		t.Errorf("too little was tried: %v", kinds)
	}
}

// What an index finds is what is read (by which way a command finds its rows: TestK3).
func TestI2WhatAnIndexFindsIsWhatIsRead(t *testing.T) {
	found, none := 0, 0
	drawn(t, 18, func(d drawer, e api.Engine, _ string) {
		for _, x := range e.Tables {
			numbers, rows := read(t, x)
			for k, i := range x.Indexes {
				isDone, _ := index.Done(x, k)
				values := []api.Value{{}, {Kind: api.TypeInt, N: 5}, {Kind: api.TypeText, S: "none"}, {Kind: api.TypeBool, N: 1}}
				for _, r := range rows {
					values = append(values, r[i.At])
				}
				for _, v := range values {
					var want []int
					for j, r := range rows {
						if isDone && r[i.At] == v {
							want = append(want, numbers[j])
						}
					}
					got, f := index.Find(x, k, v)
					if !slices.Equal(got, want) || (f == api.OK) != isDone {
						t.Fatalf("%+v by %d of %+v: they are %v, %d; want %v", v, k, x, got, f, want)
					}
					found += len(want)
					if len(want) == 0 {
						none++
					}
				}
			}
		}
	})
	if found < 10000 || none < 1000 {
		t.Errorf("too little was tried: %d, %d", found, none)
	}
}

// A transaction that is rolled back is as if it had not been, whatever was done in it, with whatever ticks.
func TestJ3RolledBackIsAsIfItHadNotBeen(t *testing.T) {
	changed := 0
	drawn(t, 19, func(d drawer, e api.Engine, _ string) {
		if e.Within {
			return
		}
		now, _ := do(t, e, parsed(t, "begin"))
		for range d.Intn(8) {
			s := d.text(now)
			if s == "commit" || s == "rollback" {
				continue
			}
			now, _ = do(t, now, parsed(t, s))
			now = ticked(t, now, d.Intn(3))
		}
		if !reflect.DeepEqual(now.Tables, e.Tables) {
			changed++
		}
		back, a := do(t, now, parsed(t, "rollback"))
		if a.Errno != api.OK || !same(back, e) {
			t.Fatalf("it is %+v, %+v; want %+v", back, a, e)
		}
	})
	if changed < 1000 {
		t.Errorf("too little was tried: %d", changed)
	}
}

// same engines, but for whether lists without elements are nil.
func same(a, b api.Engine) bool {
	return a.Within == b.Within && slices.EqualFunc(a.Tables, b.Tables, sameTable) && slices.EqualFunc(a.Saved, b.Saved, sameTable)
}

func sameTable(a, b api.Table) bool {
	sameIndex := func(i, j api.Index) bool {
		return i.Name == j.Name && i.At == j.At && i.Built == j.Built && slices.Equal(i.Entries, j.Entries)
	}
	return a.Name == b.Name && a.Next == b.Next && slices.Equal(a.Columns, b.Columns) && slices.Equal(a.Deltas, b.Deltas) && slices.Equal(a.Rows, b.Rows) && slices.EqualFunc(a.Indexes, b.Indexes, sameIndex)
}

// cleaned: an engine behind all ticks, at most as many as are promised.
func cleaned(t *testing.T, e api.Engine) api.Engine {
	t.Helper()
	clean, many, f := tick.Clean(e)
	if f != api.OK || many > 100 || engine.Check(clean) != api.OK {
		t.Fatalf("%+v: it is %+v, %d, %d", e, clean, many, f)
	}
	return clean
}
