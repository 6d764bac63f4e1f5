package engine

import (
	"testing"

	"overhaul/api"
)

func TestJ2Begin(t *testing.T) {
	e := birds(t)
	got := done(t, e, "begin", "")
	wantSame(t, "begin", got, api.Engine{Tables: e.Tables, Within: true, Saved: e.Tables})
	done(t, got, "begin", "ErrState")
	// What is saved stays as it was ahead of the transaction, whatever is done within.
	got = behind(t, got, "drop table nest", "delete from bird", "insert into bird values ('emu', 1, true)")
	wantSame(t, "within", api.Engine{Tables: got.Saved}, e)
	done(t, got, "begin", "ErrState")
	wantSame(t, "begin", done(t, api.Engine{}, "begin", ""), api.Engine{Within: true})
}

func TestJ2Commit(t *testing.T) {
	e := birds(t)
	done(t, e, "commit", "ErrState")
	wantSame(t, "commit", behind(t, e, "begin", "commit"), e)
	played(t, e,
		line{"begin", ""},
		line{"delete from bird where (legs = 2)", "2 changed"},
		line{"drop table nest", ""},
		line{"commit", ""},
		line{"select name from bird", "'tit'; 'owl'"},
		line{"select * from nest", "ErrNone"},
		line{"commit", "ErrState"},
		line{"rollback", "ErrState"},
		line{"begin", ""})
	got := behind(t, e, "begin", "drop table nest", "commit")
	wantSame(t, "commit", got, api.Engine{Tables: e.Tables[:1]})
}

func TestJ2Rollback(t *testing.T) {
	e := birds(t)
	done(t, e, "rollback", "ErrState")
	played(t, e,
		line{"begin", ""},
		line{"delete from bird where (legs = 2)", "2 changed"},
		line{"alter table bird rename to fowl", ""},
		line{"select name from fowl", "'tit'; 'owl'"},
		line{"select name from bird", "ErrNone"},
		line{"rollback", ""},
		line{"select name from bird", "'wren'; 'tit'; 'owl'; 'auk'"},
		line{"select name from fowl", "ErrNone"},
		line{"rollback", "ErrState"},
		line{"commit", "ErrState"},
		line{"begin", ""},
		line{"select name from bird", "'wren'; 'tit'; 'owl'; 'auk'"})
	wantSame(t, "rollback", behind(t, api.Engine{}, "begin", "create table t (a int)", "rollback"), api.Engine{})
}

// An error within a transaction leaves it as it is.
func TestJ2ErrorsWithin(t *testing.T) {
	played(t, birds(t),
		line{"begin", ""},
		line{"delete from bird where (name = 'tit')", "1 changed"},
		line{"begin", "ErrState"},
		line{"insert into bird values (1)", "ErrForm"},
		line{"drop table zz", "ErrNone"},
		line{"select name from bird", "'wren'; 'owl'; 'auk'"},
		line{"rollback", ""},
		line{"select name from bird", "'wren'; 'tit'; 'owl'; 'auk'"})
}

// Each kind of commands within: behind the rollback all is as it was, what is not read of it, too.
func TestJ3AsIfItHadNotBeen(t *testing.T) {
	e := birds(t)
	all := []string{
		"create table x (a int)", "drop table nest", "alter table bird add z int default 1", "alter table bird drop legs", "alter table bird rename legs to z",
		"alter table bird retype seen text", "alter table bird rename to z", "create index z on bird (name)", "drop index l", "insert into bird values ('x', 1, null)",
		"delete from bird where seen", "update bird set legs = 9", "select * from bird",
	}
	begun := behind(t, e, "begin")
	for _, s := range all {
		wantSame(t, s, behind(t, begun, s, "rollback"), e)
		for _, next := range all {
			got, _, _ := Do(behind(t, begun, s), parsed(t, next))
			wantSame(t, s+"; "+next, behind(t, got, "rollback"), e)
			got = behind(t, begun, s, "rollback")
			wantSame(t, s+"; rollback; "+next, behind(t, got, next), behind(t, e, next))
		}
	}
	// A transaction that is committed is what the commands are without one.
	wantSame(t, "commit", behind(t, begun, all[0], all[2], all[7], all[10], "commit"), behind(t, e, all[0], all[2], all[7], all[10]))
}
