package fit

import (
	"math"
	"testing"

	"overhaul/api"
)

func number(n int) api.Value  { return api.Value{Kind: api.TypeInt, N: n} }
func text(s string) api.Value { return api.Value{Kind: api.TypeText, S: s} }
func truth(n int) api.Value   { return api.Value{Kind: api.TypeBool, N: n} }

var none = api.Value{}

func TestB1TheFirstWrongValueTells(t *testing.T) {
	for _, c := range []struct {
		l    []api.Value
		want api.Errno
	}{
		{nil, api.OK},
		{[]api.Value{}, api.OK},
		{[]api.Value{none, number(-1), text("a"), truth(1)}, api.OK},
		{make([]api.Value, 40), api.OK},
		{[]api.Value{truth(2)}, api.ErrRange},
		{[]api.Value{{Kind: 4}}, api.ErrKind},
		{[]api.Value{none, number(1), {S: "a"}}, api.ErrRange},
		{[]api.Value{none, truth(2), {Kind: -1}}, api.ErrRange},
		{[]api.Value{none, {Kind: -1}, truth(2)}, api.ErrKind},
	} {
		if e := Fault(c.l); e != c.want {
			t.Errorf("Fault(%v) = %d; want %d", c.l, e, c.want)
		}
	}
}

func TestE1NothingFitsEveryKind(t *testing.T) {
	for must := api.TypeInt; must <= api.TypeBool; must++ {
		for _, kind := range []int{math.MinInt, -1, 0, 1, 2, 3, 4, math.MaxInt} {
			if got := Kind(kind, must); got != (kind == 0 || kind == must) {
				t.Errorf("Kind(%d, %d) = %v", kind, must, got)
			}
		}
	}
}

func TestH1ARowHasAValueForEachColumn(t *testing.T) {
	columns := []api.Column{{Name: "a", Type: api.TypeInt}, {Name: "b", Type: api.TypeText}, {Name: "c", Type: api.TypeBool}}
	for _, c := range []struct {
		l    []api.Value
		want bool
	}{
		{[]api.Value{number(1), text("a"), truth(1)}, true},
		{[]api.Value{none, none, none}, true},
		{[]api.Value{none, text(""), none}, true},
		{nil, false},
		{[]api.Value{number(1), text("a")}, false},
		{[]api.Value{number(1), text("a"), truth(1), none}, false},
		{[]api.Value{text("a"), text("a"), truth(1)}, false},
		{[]api.Value{number(1), text("a"), number(1)}, false},
		{[]api.Value{number(1), truth(1), text("a")}, false},
	} {
		if got := Row(columns, c.l); got != c.want {
			t.Errorf("Row(%v) = %v", c.l, got)
		}
	}
	if !Row(nil, nil) || Row(nil, []api.Value{none}) {
		t.Error("without columns there is a row of no values, and no other")
	}
}
