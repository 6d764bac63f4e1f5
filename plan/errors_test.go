package plan

import (
	"testing"

	"overhaul/api"
)

// Each error that an answer may have.
func TestK1K2ErrorsOfAnswers(t *testing.T) {
	e := built(t, birds(t), allIndexes...)
	for _, c := range []struct {
		s    string
		want api.Errno
	}{
		{"select * from zz", api.ErrNone},
		{"delete from zz", api.ErrNone},
		{"update zz set a = 1", api.ErrNone},
		{"select zz from bird", api.ErrNone},
		{"select * from bird order by zz", api.ErrNone},
		{"select * from bird where (zz = 3)", api.ErrNone},
		{"delete from bird where ((legs = 3) and zz)", api.ErrNone},
		{"update bird set zz = 3", api.ErrNone},
		{"update bird set legs = zz", api.ErrNone},
		{"select * from bird where legs", api.ErrState},
		{"delete from bird where 'x'", api.ErrState},
		{"select * from bird where (legs = '3')", api.ErrState},
		{"select * from bird where ((legs = 3) and (name = 3))", api.ErrState},
		{"select * from bird where ((legs = 3) and legs)", api.ErrState},
		{"update bird set legs = 3 where (legs + 1)", api.ErrState},
		{"update bird set legs = (name + 1) where (legs = 3)", api.ErrState},
		{"update bird set legs = 'x' where (legs = 3)", api.ErrKind},
		{"update bird set name = seen", api.ErrKind},
		// the first one, where there are more
		{"update bird set zz = 'x' where legs", api.ErrNone},
		{"update bird set legs = 'x' where legs", api.ErrState},
		{"update bird set legs = 'x' where (zz = 3)", api.ErrNone},
		{"select zz from bird where legs", api.ErrNone},
	} {
		wantErrors(t, e, parsed(t, c.s), c.want)
	}
}

// Other kinds of commands, whatever else is wrong with them, and whatever their answer is.
func TestK1K2OtherKinds(t *testing.T) {
	e := birds(t)
	for _, s := range []string{
		"create table x (a int)", "create table bird (a int)", "drop table bird", "drop table zz", "alter table bird add z int default 3", "alter table bird drop legs",
		"alter table zz drop legs", "alter table bird rename legs to z", "alter table bird retype legs text", "alter table bird rename to z", "create index z on nest (legs)",
		"create index l on bird (legs)", "drop index l", "drop index zz", "insert into bird values ('x', 1, true)", "insert into bird values (1)", "begin", "commit", "rollback",
	} {
		wantErrors(t, e, parsed(t, s), api.ErrKind)
	}
}

// What is wrong with the engine tells first, then what is wrong with the command, then of which kind it is, then its answer.
func TestK1K2ErrorsInOrder(t *testing.T) {
	wrong := birds(t)
	wrong.Tables[1].Name = "fowl"
	many := birds(t)
	many.Tables = make([]api.Table, api.MaxTables+1)
	saved := birds(t)
	saved.Saved = saved.Tables
	for _, c := range []api.Cmd{
		{}, {Kind: 17}, {Kind: api.CmdInsert, Name: "bird", Values: make([]api.Value, 6)}, parsed(t, "begin"), parsed(t, "select * from zz"), parsed(t, "select * from bird"), parsed(t, "delete from bird where (legs = '3')"),
	} {
		wantErrors(t, wrong, c, api.ErrTwice)
		wantErrors(t, many, c, api.ErrMany)
		wantErrors(t, saved, c, api.ErrState)
	}
	none := api.Expr{Kind: api.ExprColumn, Name: "zz"}
	for _, c := range []struct {
		c    api.Cmd
		want api.Errno
	}{
		{api.Cmd{}, api.ErrForm},
		{api.Cmd{Kind: 17}, api.ErrForm},
		{api.Cmd{Kind: -1}, api.ErrForm},
		{api.Cmd{Kind: api.CmdInsert, Name: "bird", Values: make([]api.Value, 6)}, api.ErrMany},
		{api.Cmd{Kind: api.CmdInsert, Name: "bird"}, api.ErrForm},
		{api.Cmd{Kind: api.CmdBegin, Name: "bird"}, api.ErrForm},
		{api.Cmd{Kind: api.CmdDrop, Name: "table"}, api.ErrForm},
		{api.Cmd{Kind: api.CmdDelete, Name: "bird"}, api.ErrForm},
		{api.Cmd{Kind: api.CmdDelete, Name: "bird", All: true, Where: none}, api.ErrForm},
		{api.Cmd{Kind: api.CmdSelect, Name: "zz", All: true, Limit: -2}, api.ErrForm},
		{api.Cmd{Kind: api.CmdSelect, Name: "zz", All: true, Fields: make([]string, 6)}, api.ErrMany},
		{api.Cmd{Kind: api.CmdDelete, Name: "bird", Where: api.Expr{Kind: api.ExprSame}}, api.ErrForm},
		{api.Cmd{Kind: api.CmdDelete, Name: "bird", Where: api.Expr{Kind: api.ExprSame, Args: make([]api.Expr, 15)}}, api.ErrMany},
		{api.Cmd{Kind: api.CmdUpdate, Name: "zz", Column: "zz", Expr: none, Where: api.Expr{Kind: 12}}, api.ErrForm},
		{api.Cmd{Kind: api.CmdUpdate, Name: "zz", Column: "zz", Expr: none, All: true}, api.ErrNone},
		{api.Cmd{Kind: api.CmdDrop, Name: "zz"}, api.ErrKind},
		{api.Cmd{Kind: api.CmdCommit}, api.ErrKind},
		{api.Cmd{Kind: api.CmdDelete, Name: "bird", Where: none}, api.ErrNone},
	} {
		wantErrors(t, birds(t), c.c, c.want)
	}
	wantErrors(t, api.Engine{}, api.Cmd{}, api.ErrForm)
	wantErrors(t, api.Engine{}, parsed(t, "rollback"), api.ErrKind)
	wantErrors(t, api.Engine{}, parsed(t, "select * from bird"), api.ErrNone)
}
