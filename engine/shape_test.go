package engine

import (
	"reflect"
	"slices"
	"testing"

	"overhaul/api"
)

func TestJ2Create(t *testing.T) {
	e := birds(t)
	got := done(t, e, "create table egg (size int, hue text, old bool)", "")
	want := e
	want.Tables = append(slices.Clone(e.Tables), api.Table{Name: "egg", Columns: []api.Column{{Name: "size", Type: api.TypeInt}, {Name: "hue", Type: api.TypeText}, {Name: "old", Type: api.TypeBool}}, Next: 1})
	wantSame(t, "create", got, want)
	got = done(t, api.Engine{}, "create table a (a bool)", "")
	wantSame(t, "create", got, api.Engine{Tables: []api.Table{{Name: "a", Columns: []api.Column{{Name: "a", Type: api.TypeBool}}, Next: 1}}})
	done(t, got, "create table b (a int, b int, c int, d int, e int)", "")
}

// A name that there is tells ahead of too many tables, and that ahead of a column's name twice.
func TestJ2CreateErrorsInOrder(t *testing.T) {
	e := behind(t, birds(t), "create table v (a int)")
	played(t, e,
		line{"create table bird (a int)", "ErrTwice"},
		line{"create table v (a int)", "ErrTwice"},
		line{"create table w (a int, b text, a int)", "ErrTwice"},
		line{"create table w (a int, a text)", "ErrTwice"},
		line{"create table w (a int)", ""},
		line{"create table x (a int)", "ErrMany"},
		line{"create table x (a int, a int)", "ErrMany"},
		line{"create table bird (a int)", "ErrTwice"},
		line{"create table w (a int, a int)", "ErrTwice"},
		line{"drop table v", ""},
		line{"create table x (a int, a int)", "ErrTwice"},
		line{"create table x (a int)", ""},
		line{"create table y (a int)", "ErrMany"})
}

func TestJ2NoSuchTable(t *testing.T) {
	for _, s := range []string{
		"drop table x", "alter table x add a int default 1", "alter table x drop a", "alter table x rename a to b", "alter table x retype a int",
		"alter table x rename to y", "alter table x rename to bird", "create index i on x (a)", "create index l on x (a)", "insert into x values (1)",
		"delete from x", "update x set a = 1", "select * from x", "select a from x where b order by c limit 0", "drop table l",
	} {
		done(t, birds(t), s, "ErrNone")
		done(t, api.Engine{}, s, "ErrNone")
	}
}

func TestJ2Drop(t *testing.T) {
	e := birds(t)
	wantSame(t, "drop", done(t, e, "drop table bird", ""), api.Engine{Tables: e.Tables[1:]})
	wantSame(t, "drop", done(t, e, "drop table nest", ""), api.Engine{Tables: e.Tables[:1]})
	// With a table its indexes go, and it may come again, behind all others.
	e = played(t, e,
		line{"drop table bird", ""},
		line{"drop table bird", "ErrNone"},
		line{"drop index l", "ErrNone"},
		line{"create index l on nest (twigs)", ""},
		line{"create table bird (legs int)", ""},
		line{"select * from bird", ""})
	if e.Tables[0].Name != "nest" || e.Tables[1].Name != "bird" || e.Tables[1].Next != 1 {
		t.Errorf("it is %+v", e)
	}
}

func TestJ2AddErrors(t *testing.T) {
	e := played(t, birds(t),
		line{"alter table bird add legs int default 1", "ErrTwice"},
		line{"alter table bird add name bool default 1", "ErrTwice"},
		line{"alter table bird add a int default 'x'", "ErrKind"},
		line{"alter table bird add a text default 1", "ErrKind"},
		line{"alter table bird add a bool default 1", "ErrKind"},
		line{"alter table bird add a text default null", ""},
		line{"alter table bird add b text default 'b'", ""},
		line{"alter table bird add c text default 'c'", "ErrMany"},
		line{"alter table bird add a text default 'c'", "ErrMany"},
		line{"alter table bird add c text default 1", "ErrMany"},
		line{"select * from bird where (legs < 3)", "'wren' 2 false - 'b'; 'auk' 2 - - 'b'"},
		line{"alter table bird drop a", ""},
		line{"alter table bird add b text default 'c'", "ErrTwice"},
		line{"alter table bird add a int default -5", ""},
		line{"select name, a, b from bird", "'wren' -5 'b'; 'tit' -5 'b'; 'owl' -5 'b'; 'auk' -5 'b'"})
	if len(e.Tables[0].Deltas) != 5 {
		t.Errorf("it is %+v", e)
	}
}

// A column that is none tells ahead of deltas that are too many.
func TestJ2TakeAndRetypeErrors(t *testing.T) {
	e := played(t, birds(t),
		line{"alter table bird drop zz", "ErrNone"},
		line{"alter table bird retype zz int", "ErrNone"},
		line{"alter table nest drop twigs", "ErrState"},
		line{"alter table nest drop name", "ErrNone"},
		line{"alter table nest retype twigs text", ""},
		line{"select * from nest", "'40'"},
		line{"alter table bird retype legs bool", ""},
		line{"alter table bird retype seen int", ""},
		line{"alter table bird drop name", ""},
		line{"select * from bird", "true 0; - 0; true 1; true -"},
		line{"alter table bird retype legs text", ""},
		line{"alter table bird retype legs text", ""})
	played(t, e,
		line{"alter table bird retype legs int", "ErrMany"},
		line{"alter table bird drop legs", "ErrMany"},
		line{"alter table bird add a int default 1", "ErrMany"},
		line{"alter table bird retype zz int", "ErrNone"},
		line{"alter table bird drop zz", "ErrNone"},
		line{"alter table bird rename legs to zz", ""},
		line{"alter table bird rename to b", ""},
		line{"select * from b", "'true' 0; - 0; 'true' 1; 'true' -"},
		line{"alter table b drop seen", "ErrMany"})
	e = played(t, e,
		line{"create table x (a int)", ""},
		line{"alter table x retype a text", ""},
		line{"alter table x retype a text", ""},
		line{"alter table x retype a text", ""},
		line{"alter table x retype a text", ""},
		line{"alter table x retype a text", ""},
		line{"alter table x retype a text", ""},
		line{"alter table x retype a text", "ErrMany"},
		line{"alter table x drop a", "ErrMany"})
}

// An index on a column that goes goes with it; one on a column behind it stays on that one; one on a column of another kind is not built any more.
func TestJ2TakeAndRetypeOfIndexes(t *testing.T) {
	e := behind(t, birds(t), "create index s on bird (seen)", "insert into nest values (null)")
	if x := e.Tables[1].Indexes[0]; x.Built != 3 || len(x.Entries) != 2 {
		t.Errorf("it is %+v", x)
	}
	e = behind(t, e, "alter table nest retype twigs text", "alter table bird drop legs")
	if x := e.Tables[1].Indexes[0]; x.Built != 1 || len(x.Entries) != 0 {
		t.Errorf("it is %+v", x)
	}
	if l := e.Tables[0].Indexes; len(l) != 1 || l[0].Name != "s" || l[0].At != 1 {
		t.Errorf("it is %+v", l)
	}
	played(t, e,
		line{"drop index l", "ErrNone"},
		line{"create index l on bird (name)", ""},
		line{"create index k on bird (name)", ""},
		line{"create index m on bird (name)", "ErrMany"})
}

func TestJ2RenameAColumn(t *testing.T) {
	e := birds(t)
	got := done(t, e, "alter table bird rename legs to feet", "")
	want := birds(t)
	want.Tables[0].Columns[1].Name = "feet"
	wantSame(t, "rename", got, want)
	played(t, got,
		line{"select legs from bird", "ErrNone"},
		line{"select feet from bird where (feet = 3)", "3"},
		line{"alter table bird rename legs to toes", "ErrNone"},
		line{"alter table bird rename legs to feet", "ErrNone"},
		line{"alter table bird rename legs to legs", "ErrNone"},
		line{"alter table bird rename feet to name", "ErrTwice"},
		line{"alter table bird rename name to seen", "ErrTwice"},
		line{"alter table bird rename feet to twigs", ""},
		line{"alter table bird rename twigs to l", ""},
		line{"alter table bird rename l to bird", ""})
	// Its own name no other column has.
	wantSame(t, "rename", done(t, e, "alter table bird rename legs to legs", ""), e)
}

func TestJ2RenameATable(t *testing.T) {
	e := birds(t)
	got := done(t, e, "alter table bird rename to fowl", "")
	want := birds(t)
	want.Tables[0].Name = "fowl"
	wantSame(t, "rename", got, want)
	played(t, got,
		line{"select * from bird", "ErrNone"},
		line{"select legs from fowl", "2; -; 3; 2"},
		line{"alter table fowl rename to nest", "ErrTwice"},
		line{"alter table nest rename to fowl", "ErrTwice"},
		line{"alter table bird rename to nest", "ErrNone"},
		line{"alter table nest rename to bird", ""},
		line{"alter table fowl rename to nest", ""},
		line{"select legs from nest", "2; -; 3; 2"},
		line{"alter table nest rename to l", ""})
	wantSame(t, "rename", done(t, e, "alter table nest rename to nest", ""), e)
}

func TestJ2Index(t *testing.T) {
	e := birds(t)
	want := birds(t)
	want.Tables[0].Indexes = append(want.Tables[0].Indexes, api.Index{Name: "s", At: 2, Built: 1})
	wantSame(t, "index", done(t, e, "create index s on bird (seen)", ""), want)
	want = birds(t)
	want.Tables[1].Indexes = append(want.Tables[1].Indexes, api.Index{Name: "twigs", At: 0, Built: 1})
	wantSame(t, "index", done(t, e, "create index twigs on nest (twigs)", ""), want)
	// Two indexes may be on one column. Of a table without rows both are done, so that each has the first row.
	e = behind(t, e, "create table x (a bool)", "create index i on x (a)", "create index j on x (a)", "insert into x values (true)")
	for i, x := range e.Tables[2].Indexes {
		if x.Name != []string{"i", "j"}[i] || x.Built != 2 || !reflect.DeepEqual(x.Entries, []api.Entry{{Key: "31", Number: 1}}) {
			t.Errorf("it is %+v", x)
		}
	}
}

// The table tells first, then the column, then the name, then how many there are.
func TestJ2IndexErrorsInOrder(t *testing.T) {
	e := played(t, birds(t),
		line{"create index l on zz (legs)", "ErrNone"},
		line{"create index l on bird (twigs)", "ErrNone"},
		line{"create index l on bird (name)", "ErrTwice"},
		line{"create index l on nest (twigs)", "ErrTwice"},
		line{"create index n on bird (name)", "ErrTwice"},
		line{"create index a on bird (name)", ""},
		line{"create index b on nest (twigs)", ""})
	played(t, e,
		line{"create index c on nest (twigs)", "ErrMany"},
		line{"create index c on bird (legs)", "ErrMany"},
		line{"create index b on bird (legs)", "ErrTwice"},
		line{"create index l on nest (twigs)", "ErrTwice"},
		line{"create index c on bird (twigs)", "ErrNone"},
		line{"create index c on zz (legs)", "ErrNone"},
		line{"create table x (a int)", ""},
		line{"create index c on x (a)", "ErrMany"},
		line{"drop index n", ""},
		line{"create index c on x (a)", ""},
		line{"create index d on x (a)", "ErrMany"},
		line{"drop table bird", ""},
		line{"create index d on x (a)", ""},
		line{"create index l on x (a)", ""},
		line{"create index a on x (a)", "ErrMany"})
}

func TestJ2Unindex(t *testing.T) {
	e := behind(t, birds(t), "create index s on bird (seen)")
	want := birds(t)
	want.Tables[0].Indexes = append([]api.Index(nil), e.Tables[0].Indexes[1:]...)
	wantSame(t, "drop index", done(t, e, "drop index l", ""), want)
	wantSame(t, "drop index", done(t, e, "drop index s", ""), birds(t))
	want = behind(t, birds(t), "create index s on bird (seen)")
	want.Tables[1].Indexes = nil
	wantSame(t, "drop index", done(t, e, "drop index n", ""), want)
	played(t, e,
		line{"drop index zz", "ErrNone"},
		line{"drop index bird", "ErrNone"},
		line{"drop index legs", "ErrNone"},
		line{"drop index l", ""},
		line{"drop index l", "ErrNone"})
	done(t, api.Engine{}, "drop index l", "ErrNone")
}
