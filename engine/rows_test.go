package engine

import (
	"slices"
	"strings"
	"testing"

	"overhaul/api"
)

func TestJ2InsertErrors(t *testing.T) {
	played(t, birds(t),
		line{"insert into bird values ('x', 1)", "ErrForm"},
		line{"insert into bird values ('x', 1, true, null)", "ErrForm"},
		line{"insert into nest values (1, 2)", "ErrForm"},
		line{"insert into bird values (1, 1, true)", "ErrKind"},
		line{"insert into bird values ('x', '1', true)", "ErrKind"},
		line{"insert into bird values ('x', 1, 1)", "ErrKind"},
		line{"insert into bird values ('x', true, true)", "ErrKind"},
		line{"insert into nest values ('40')", "ErrKind"},
		line{"insert into bird values (null, null, null)", ""},
		line{"insert into bird values ('x', -1, true)", ""},
		line{"select * from bird where (legs < 2)", "'x' -1 true"},
		line{"select * from bird where (name is null)", "- - -"})
}

func TestJ2InsertMany(t *testing.T) {
	e := birds(t)
	for range api.MaxRows - 1 {
		e = behind(t, e, "insert into nest values (1)")
	}
	played(t, e,
		line{"insert into nest values (1)", "ErrMany"},
		line{"insert into nest values (1, 2)", "ErrForm"},
		line{"insert into nest values ('x')", "ErrKind"},
		line{"update nest set twigs = (twigs + 1)", "30 changed"},
		line{"delete from nest where (twigs = 41)", "1 changed"},
		line{"insert into nest values (1)", ""},
		line{"insert into nest values (1)", "ErrMany"},
		line{"delete from nest", "30 changed"},
		line{"delete from nest", ""},
		line{"insert into nest values (1)", ""},
		line{"select * from nest", "1"})
	e = birds(t)
	e.Tables[1].Next = 999999
	played(t, e,
		line{"insert into nest values (1)", ""},
		line{"insert into nest values (1)", "ErrMany"},
		line{"delete from nest", "2 changed"},
		line{"insert into nest values (1)", "ErrMany"})
}

func TestJ2Delete(t *testing.T) {
	for _, c := range []struct{ where, answer, left string }{
		{"", "4 changed", ""},
		{" where true", "4 changed", ""},
		{" where false", "", "'wren'; 'tit'; 'owl'; 'auk'"},
		{" where null", "", "'wren'; 'tit'; 'owl'; 'auk'"},
		{" where seen", "1 changed", "'wren'; 'tit'; 'auk'"},
		{" where not seen", "2 changed", "'owl'; 'auk'"},
		{" where (seen is null)", "1 changed", "'wren'; 'tit'; 'owl'"},
		{" where (legs < 3)", "2 changed", "'tit'; 'owl'"},
		{" where (legs = null)", "", "'wren'; 'tit'; 'owl'; 'auk'"},
		{" where ((legs is null) or (name = 'owl'))", "2 changed", "'wren'; 'auk'"},
	} {
		e := done(t, birds(t), "delete from bird"+c.where, c.answer)
		done(t, e, "select name from bird", c.left)
		done(t, e, "select * from nest", "40")
	}
}

func TestJ2Update(t *testing.T) {
	played(t, birds(t),
		line{"update bird set legs = 7 where (name = 'tit')", "1 changed"},
		line{"select legs from bird", "2; 7; 3; 2"},
		line{"update bird set legs = (legs - 1)", "4 changed"},
		line{"select legs from bird", "1; 6; 2; 1"},
		line{"update bird set legs = null where (legs < 2)", "2 changed"},
		line{"select legs from bird", "-; 6; 2; -"},
		line{"update bird set legs = (legs + 999999995)", "4 changed"},
		line{"select legs from bird", "-; -; 999999997; -"},
		line{"update bird set seen = (legs is null) where not seen", "2 changed"},
		line{"select name, seen from bird", "'wren' true; 'tit' true; 'owl' true; 'auk' -"},
		line{"update bird set name = (name || name) where seen", "3 changed"},
		line{"select name from bird", "'wrenwren'; 'tittit'; 'owlowl'; 'auk'"},
		line{"update bird set name = name where false", ""},
		line{"select * from nest", "40"})
}

// What a row is set to is told by its values ahead of the command, and so is which rows there are.
func TestJ2UpdateByWhatWas(t *testing.T) {
	e := behind(t, api.Engine{}, "create table t (a int, b int)", "insert into t values (1, 10)", "insert into t values (2, 20)", "insert into t values (3, 30)")
	played(t, e,
		line{"update t set a = (a + 1) where (a < 3)", "2 changed"},
		line{"select * from t", "2 10; 3 20; 3 30"},
		line{"update t set a = b where (a = 3)", "2 changed"},
		line{"select * from t", "2 10; 20 20; 30 30"})
}

// A row that is set is of the newest version then, even if its value stays the same; no other row is.
func TestJ2UpdateVersions(t *testing.T) {
	e := behind(t, birds(t), "alter table bird drop seen", "update bird set legs = legs where (legs = 2)")
	for i, version := range []int{2, 0, 1, 2} {
		if x := e.Tables[0].Rows[i]; x.Version != version || x.Number != i+1 {
			t.Errorf("%d: it is %+v", i, x)
		}
	}
}

// The column tells first, then the condition, then the expression; rows need not be there.
func TestJ2UpdateErrorsInOrder(t *testing.T) {
	for _, e := range []api.Engine{birds(t), behind(t, birds(t), "delete from bird")} {
		played(t, e,
			line{"update bird set zz = 1", "ErrNone"},
			line{"update bird set zz = 'x' where legs", "ErrNone"},
			line{"update bird set legs = yy where legs", "ErrState"},
			line{"update bird set legs = 'x' where legs", "ErrState"},
			line{"update bird set legs = 'x' where yy", "ErrNone"},
			line{"update bird set legs = (name + 1) where yy", "ErrNone"},
			line{"update bird set legs = yy where seen", "ErrNone"},
			line{"update bird set legs = yy", "ErrNone"},
			line{"update bird set legs = (name + 1)", "ErrState"},
			line{"update bird set legs = (name || 1) where false", "ErrState"},
			line{"update bird set legs = 'x' where false", "ErrKind"},
			line{"update bird set legs = name", "ErrKind"},
			line{"update bird set legs = (legs = 1)", "ErrKind"},
			line{"update bird set name = legs", "ErrKind"},
			line{"update bird set seen = 1", "ErrKind"},
			line{"update bird set seen = null where (name < 'a')", ""})
	}
}

func TestJ2WhereErrors(t *testing.T) {
	for _, c := range []struct{ where, want string }{
		{"legs", "ErrState"},
		{"name", "ErrState"},
		{"1", "ErrState"},
		{"'true'", "ErrState"},
		{"(legs + 1)", "ErrState"},
		{"(legs + null)", "ErrState"},
		{"(null + null)", "ErrState"},
		{"zz", "ErrNone"},
		{"(zz + name)", "ErrNone"},
		{"(legs = name)", "ErrState"},
		{"((legs = name) and zz)", "ErrNone"},
		{"not legs", "ErrState"},
		{"(seen and (twigs = 1))", "ErrNone"},
	} {
		for _, e := range []api.Engine{birds(t), behind(t, birds(t), "delete from bird")} {
			for _, s := range []string{"delete from bird", "update bird set legs = 1", "select * from bird", "select name from bird"} {
				done(t, e, s+" where "+c.where, c.want)
			}
		}
	}
}

func TestJ2SelectRowsAndFields(t *testing.T) {
	played(t, birds(t),
		line{"select * from bird", "'wren' 2 false; 'tit' - false; 'owl' 3 true; 'auk' 2 -"},
		line{"select name, legs, seen from bird", "'wren' 2 false; 'tit' - false; 'owl' 3 true; 'auk' 2 -"},
		line{"select legs from bird", "2; -; 3; 2"},
		line{"select seen, name from bird", "false 'wren'; false 'tit'; true 'owl'; - 'auk'"},
		line{"select legs, legs, name, legs, legs from bird where seen", "3 3 'owl' 3 3"},
		line{"select * from bird where (legs = 2)", "'wren' 2 false; 'auk' 2 -"},
		line{"select name from bird where not seen", "'wren'; 'tit'"},
		line{"select name from bird where not (seen is null)", "'wren'; 'tit'; 'owl'"},
		line{"select name from bird where null", ""},
		line{"select name from bird where true", "'wren'; 'tit'; 'owl'; 'auk'"},
		line{"select * from nest", "40"},
		line{"delete from bird", "4 changed"},
		line{"select * from bird", ""},
		line{"select * from bird order by legs limit 3", ""})
}

// Nothing stands ahead of all, and rows with the same value stay as they came.
func TestJ2SelectOrder(t *testing.T) {
	played(t, birds(t),
		line{"select name from bird order by legs", "'tit'; 'wren'; 'auk'; 'owl'"},
		line{"select name from bird order by name", "'auk'; 'owl'; 'tit'; 'wren'"},
		line{"select name from bird order by seen", "'auk'; 'wren'; 'tit'; 'owl'"},
		line{"select * from bird where (legs < 4) order by seen", "'auk' 2 -; 'wren' 2 false; 'owl' 3 true"},
		line{"insert into bird values ('', -10, true)", ""},
		line{"insert into bird values (null, 10, false)", ""},
		line{"select legs from bird order by legs", "-; -10; 2; 2; 3; 10"},
		line{"select name, legs from bird order by name", "- 10; '' -10; 'auk' 2; 'owl' 3; 'tit' -; 'wren' 2"},
		line{"alter table bird retype legs text", ""},
		line{"select legs from bird order by legs", "-; '-10'; '10'; '2'; '2'; '3'"})
}

// As many rows as there may be, of three values by turns: a way of sorting that is not stable is seen among so many.
func TestJ2SelectOrderOfManyRows(t *testing.T) {
	e := behind(t, api.Engine{}, "create table t (n int, s text)")
	var ofNull, ofOne, ofNought []string
	for i := range api.MaxRows {
		s := "'" + string(rune('a'+i)) + "'"
		switch i % 3 {
		case 0:
			e = behind(t, e, "insert into t values (null, "+s+")")
			ofNull = append(ofNull, s)
		case 1:
			e = behind(t, e, "insert into t values (1, "+s+")")
			ofOne = append(ofOne, s)
		case 2:
			e = behind(t, e, "insert into t values (0, "+s+")")
			ofNought = append(ofNought, s)
		}
	}
	all := slices.Concat(ofNull, ofNought, ofOne)
	done(t, e, "select s from t order by n", strings.Join(all, "; "))
	done(t, e, "select s from t order by n limit 15", strings.Join(all[:15], "; "))
}

func TestJ2SelectLimit(t *testing.T) {
	played(t, birds(t),
		line{"select name from bird limit 0", ""},
		line{"select name from bird limit 1", "'wren'"},
		line{"select name from bird limit 3", "'wren'; 'tit'; 'owl'"},
		line{"select name from bird limit 4", "'wren'; 'tit'; 'owl'; 'auk'"},
		line{"select name from bird limit 5", "'wren'; 'tit'; 'owl'; 'auk'"},
		line{"select name from bird limit 999999999", "'wren'; 'tit'; 'owl'; 'auk'"},
		line{"select name from bird order by name limit 2", "'auk'; 'owl'"},
		line{"select name from bird where (legs = 2) limit 1", "'wren'"},
		line{"select name from bird where (legs = 2) order by name limit 1", "'auk'"},
		line{"select name from bird where legs limit 0", "ErrState"})
}

// Rows are put in order by columns that are not among the fields, too; fields tell first, then the order, then the condition.
func TestJ2SelectErrorsInOrder(t *testing.T) {
	for _, e := range []api.Engine{birds(t), behind(t, birds(t), "delete from bird")} {
		played(t, e,
			line{"select zz from bird", "ErrNone"},
			line{"select name, zz from bird where legs", "ErrNone"},
			line{"select zz, name from bird where legs", "ErrNone"},
			line{"select twigs from bird", "ErrNone"},
			line{"select * from bird where legs order by zz", "ErrNone"},
			line{"select name from bird where legs order by zz", "ErrNone"},
			line{"select * from bird where legs order by name", "ErrState"},
			line{"select * from bird order by zz limit 0", "ErrNone"},
			line{"select * from bird order by twigs", "ErrNone"})
	}
}
