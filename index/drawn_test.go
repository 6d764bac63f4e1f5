package index

import (
	"math/rand"
	"slices"
	"testing"

	"overhaul/api"
	"overhaul/table"
)

// values of a kind that are drawn here, or come of one.
func valuesOf(kind int) []api.Value {
	switch kind {
	case api.TypeInt:
		return []api.Value{none, number(0), number(1), number(-9), number(9)}
	case api.TypeText:
		return []api.Value{none, text(""), text("1"), text("-9"), text("true"), text("x"), text("xy")}
	}
	return []api.Value{none, truth(0), truth(1)}
}

func drawn(r *rand.Rand, kind int) api.Value {
	l := valuesOf(kind)
	return l[r.Intn(len(l))]
}

// step of a table that is drawn; one that can't be done leaves it as it is.
func step(r *rand.Rand, x api.Table) api.Table {
	var got api.Table
	e := api.OK
	at := r.Intn(len(x.Columns))
	var numbers []int
	var values []api.Value
	for _, stored := range x.Rows {
		if r.Intn(4) == 0 {
			numbers = append(numbers, stored.Number)
			values = append(values, drawn(r, x.Columns[at].Type))
		}
	}
	switch k := r.Intn(16); {
	case k < 8:
		var l []api.Value
		for _, c := range x.Columns {
			l = append(l, drawn(r, c.Type))
		}
		got, e = table.Insert(x, l)
	case k < 10:
		got, e = table.Delete(x, numbers)
	case k < 12:
		got, e = table.Update(x, numbers, at, values)
	case k == 12:
		kind := 1 + r.Intn(3)
		got, e = table.Alter(x, api.Delta{Kind: api.DeltaAdd, Type: kind, Value: drawn(r, kind)}, []string{"a", "b", "c", "d"}[r.Intn(4)])
	case k == 13:
		got, e = table.Alter(x, api.Delta{Kind: 2 + r.Intn(2), At: at}, "")
	case k == 14:
		got, e = table.Alter(x, api.Delta{Kind: api.DeltaRetype, At: at, Type: 1 + r.Intn(3)}, "")
	default:
		if len(x.Indexes) == 0 {
			return x
		}
		got, e = Build(x, r.Intn(len(x.Indexes)), 1+r.Intn(4))
	}
	if e != api.OK {
		return x
	}
	return got
}

// drawnTable: one that many steps have led to, with indexes.
func drawnTable(r *rand.Rand) api.Table {
	x := api.Table{Name: "t", Columns: []api.Column{{Name: "a", Type: 1 + r.Intn(3)}, {Name: "b", Type: 1 + r.Intn(3)}}, Next: 1}
	for range r.Intn(50) {
		if name := []string{"i", "j", "k", "l"}[r.Intn(4)]; r.Intn(8) == 0 && !slices.ContainsFunc(x.Indexes, func(i api.Index) bool { return i.Name == name }) {
			x.Indexes = append(slices.Clone(x.Indexes), api.Index{Name: name, At: r.Intn(len(x.Columns)), Built: 1})
		}
		x = step(r, x)
	}
	return x
}

// What is found is what is read with that value, whatever led to the table, and in whichever steps the index was built.
func TestI2FoundIsWhatIsRead(t *testing.T) {
	r := rand.New(rand.NewSource(1))
	many := map[int]int{}
	for range 800 {
		x := drawnTable(r)
		numbers, rows, _ := table.Read(x)
		for k := range x.Indexes {
			for is, _ := Done(x, k); !is; is, _ = Done(x, k) {
				var e api.Errno
				if x, e = Build(x, k, 1+r.Intn(8)); e != api.OK || table.Check(x) != api.OK {
					t.Fatalf("it is %+v, %d", x, e)
				}
			}
			if x.Indexes[k].Built != x.Next || len(x.Indexes[k].Entries) != len(rows) {
				t.Fatalf("it is %+v", x)
			}
			for kind := api.TypeInt; kind <= api.TypeBool; kind++ {
				for _, v := range valuesOf(kind) {
					var want []int
					for i := range rows {
						if rows[i][x.Indexes[k].At] == v {
							want = append(want, numbers[i])
						}
					}
					many[min(len(want), 3)]++
					wantFind(t, x, k, v, want...)
				}
			}
		}
	}
	for n := range 4 {
		if many[n] < 100 {
			t.Errorf("too little was tried: %v", many)
		}
	}
}

// Of a step the other indexes and all that is read stay as they are; its index has the next rows, and none of those behind them.
func TestI1BuildAgainstAnotherWayOfTelling(t *testing.T) {
	r := rand.New(rand.NewSource(2))
	steps := 0
	for range 800 {
		x := drawnTable(r)
		for k := range x.Indexes {
			many := 1 + r.Intn(api.MaxRows)
			if r.Intn(2) == 0 {
				many = 1 + r.Intn(3)
			}
			was := x.Indexes[k].Built
			var left []int
			for _, stored := range x.Rows {
				if stored.Number >= was {
					left = append(left, stored.Number)
				}
			}
			want := x.Next
			if len(left) > many {
				want = left[many-1] + 1
			}
			got, e := Build(x, k, many)
			if e != api.OK || got.Indexes[k].Built != want || table.Check(got) != api.OK {
				t.Fatalf("it is %+v, %d; want %d", got, e, want)
			}
			if want != was {
				steps++
			}
			got.Indexes[k].Built, got.Indexes[k].Entries = was, x.Indexes[k].Entries
			if !same(got, x) {
				t.Fatalf("it is %+v;\nwant %+v", got, x)
			}
		}
	}
	if steps < 300 {
		t.Errorf("too little was tried: %d", steps)
	}
}
