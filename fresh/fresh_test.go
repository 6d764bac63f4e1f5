package fresh

import (
	"reflect"
	"testing"

	"overhaul/api"
)

func some() api.Table {
	return api.Table{
		Name:    "t",
		Columns: []api.Column{{Name: "a", Type: 1}},
		Deltas:  []api.Delta{{Kind: api.DeltaRetype, Type: 1}},
		Rows:    []api.Stored{{Number: 1, Bytes: "\x01\x00"}},
		Next:    2,
		Indexes: []api.Index{{Name: "i", Built: 2, Entries: []api.Entry{{Key: "0", Number: 1}}}, {Name: "j", Built: 1}},
	}
}

func spoil(t api.Table) {
	t.Columns[0].Name = "spoilt"
	t.Deltas[0].Kind = 9
	t.Rows[0].Bytes = "spoilt"
	t.Indexes[0].Entries[0].Key = "spoilt"
	t.Indexes[0].Name = "spoilt"
}

func TestP2ATableIsNewMemory(t *testing.T) {
	was := some()
	got := Table(was)
	if !reflect.DeepEqual(got, some()) {
		t.Errorf("it is %+v", got)
	}
	spoil(got)
	if !reflect.DeepEqual(was, some()) {
		t.Errorf("it is %+v", was)
	}
}

func TestP2AnEngineIsNewMemory(t *testing.T) {
	engine := func() api.Engine {
		return api.Engine{Tables: []api.Table{some(), some()}, Within: true, Saved: []api.Table{some()}}
	}
	was := engine()
	got := Engine(was)
	if !reflect.DeepEqual(got, engine()) {
		t.Errorf("it is %+v", got)
	}
	for _, l := range [][]api.Table{got.Tables, got.Saved} {
		for i := range l {
			spoil(l[i])
			l[i].Name = "spoilt"
		}
	}
	if !reflect.DeepEqual(was, engine()) {
		t.Errorf("it is %+v", was)
	}
	if got := Engine(api.Engine{}); len(got.Tables)+len(got.Saved) > 0 || got.Within {
		t.Errorf("it is %+v", got)
	}
}

func TestP2ADiskIsNewMemory(t *testing.T) {
	disk := func() api.Disk {
		return api.Disk{Kept: []string{"a", "b"}, Written: []api.Written{{Sector: 1, Bytes: "c"}}}
	}
	was := disk()
	got := Disk(was)
	if !reflect.DeepEqual(got, disk()) {
		t.Errorf("it is %+v", got)
	}
	got.Kept[0], got.Written[0] = "spoilt", api.Written{Sector: 9, Bytes: "spoilt"}
	if !reflect.DeepEqual(was, disk()) {
		t.Errorf("it is %+v", was)
	}
	if got := Disk(api.Disk{}); len(got.Kept)+len(got.Written) > 0 {
		t.Errorf("it is %+v", got)
	}
}
