package entries

import (
	"slices"
	"testing"

	"overhaul/api"
)

// Entries are of rows below Built alone, in order of keys, then of numbers.
func TestH1Entries(t *testing.T) {
	number := func(n int) api.Value { return api.Value{Kind: api.TypeInt, N: n} }
	x := api.Table{Rows: []api.Stored{{Number: 2}, {Number: 3}, {Number: 10}, {Number: 11}, {Number: 12}}}
	rows := [][]api.Value{{{}, number(5)}, {{}, number(-5)}, {{}, {}}, {{}, number(5)}, {{}, number(0)}}
	all := []api.Entry{{Key: "0", Number: 10}, {Key: "10999999995", Number: 3}, {Key: "11000000000", Number: 12}, {Key: "11000000005", Number: 2}, {Key: "11000000005", Number: 11}}
	for built := 1; built <= 14; built++ {
		var want []api.Entry
		for _, e := range all {
			if e.Number < built {
				want = append(want, e)
			}
		}
		if l := Of(x, rows, api.Index{At: 1, Built: built}); !slices.Equal(l, want) {
			t.Errorf("%d: it is %v; want %v", built, l, want)
		}
	}
}
