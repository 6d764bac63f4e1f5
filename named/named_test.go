package named

import (
	"testing"

	"overhaul/api"
)

func TestJ2PlacesByNames(t *testing.T) {
	for _, c := range []struct {
		name string
		want int
	}{{"a", 0}, {"b", 1}, {"ab", 2}, {"c", -1}, {"A", -1}, {"", -1}} {
		tables := Table([]api.Table{{Name: "a"}, {Name: "b"}, {Name: "ab"}, {Name: "b"}}, c.name)
		columns := Column([]api.Column{{Name: "a"}, {Name: "b"}, {Name: "ab"}, {Name: "b"}}, c.name)
		indexes := Index([]api.Index{{Name: "a"}, {Name: "b"}, {Name: "ab"}, {Name: "b"}}, c.name)
		if tables != c.want || columns != c.want || indexes != c.want {
			t.Errorf("%q: they are %d, %d, %d; want %d", c.name, tables, columns, indexes, c.want)
		}
	}
	if Table(nil, "a") >= 0 || Column(nil, "a") >= 0 || Index(nil, "a") >= 0 {
		t.Error("there is one where there is none")
	}
}
