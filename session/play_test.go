package session

import (
	"slices"
	"strings"
	"testing"

	"overhaul/api"
	"overhaul/disk"
	"overhaul/journal"
)

func formatted(t *testing.T, sectors int) api.Disk {
	t.Helper()
	d, f := journal.Format(sectors)
	if f != api.OK {
		t.Fatalf("%d sectors: it is %d", sectors, f)
	}
	return d
}

// appended texts, one by one.
func appended(t *testing.T, d api.Disk, l ...string) api.Disk {
	t.Helper()
	for _, s := range l {
		then, _, f := journal.Append(d, s)
		if f != api.OK {
			t.Fatalf("%.30q: it is %d", s, f)
		}
		d = then
	}
	return d
}

func played(t *testing.T, d api.Disk, l ...line) api.Disk {
	t.Helper()
	got, answers, f := Play(d, textsOf(l))
	if f != api.OK {
		t.Fatalf("it is %d", f)
	}
	wantAnswers(t, answers, l)
	return got
}

func reopened(t *testing.T, d api.Disk) api.Engine {
	t.Helper()
	e, f := Reopen(d)
	if f != api.OK {
		t.Fatalf("it is %d", f)
	}
	return e
}

func wantTexts(t *testing.T, d api.Disk, want ...string) {
	t.Helper()
	if l, f := journal.Open(d); f != api.OK || !slices.Equal(l, want) {
		t.Errorf("they are %.200q, %d; want %.200q", l, f, want)
	}
}

// Outside a transaction each command that was done is a text, as it is shown; of all else nothing is there.
func TestO2EachAtOnce(t *testing.T) {
	d := formatted(t, 100)
	for _, c := range []struct {
		line
		shown string
	}{
		{line{"create  table t(a int,b text)", ""}, "create table t (a int, b text)"},
		{line{"insert into t\nvalues(-1 , 'it;s')", ""}, "insert into t values (-1, 'it;s')"},
		{line{"insert into t values(1,'x', 2)", "error 1"}, ""},
		{line{"insert into t values(1,'x'", "error 1"}, ""},
		{line{"alter table t add c bool default null", ""}, "alter table t add c bool default null"},
		{line{"alter table t add c bool default null", "error 6"}, ""},
		{line{"alter\ttable t rename c to d", ""}, "alter table t rename c to d"},
		{line{"alter table t retype  d text", ""}, "alter table t retype d text"},
		{line{"create index i on t(a)", ""}, "create index i on t (a)"},
		{line{"select * from t", "-1, 'it;s', null"}, ""},
		{line{"tick", ""}, ""},
		{line{"update t set a=(a+2) where((d is null)or(a = a))", "1"}, "update t set a = (a + 2) where ((d is null) or (a = a))"},
		{line{"update t set a = 4 where false", ""}, "update t set a = 4 where false"},
		{line{"delete from t where (a = 7)", ""}, "delete from t where (a = 7)"},
		{line{"drop index i", ""}, "drop index i"},
		{line{"drop index i", "error 5"}, ""},
		{line{"alter table t drop  d", ""}, "alter table t drop d"},
		{line{"alter table t rename to t", ""}, "alter table t rename to t"},
		{line{"alter table t rename to u", ""}, "alter table t rename to u"},
		{line{"commit", "error 4"}, ""},
		{line{"rollback", "error 4"}, ""},
		{line{"begin", ""}, ""},
		{line{"delete from u", "1"}, "delete from u"},
		{line{"drop table u", ""}, "drop table u"},
	} {
		ahead, _ := journal.Open(d)
		d = played(t, d, c.line)
		if c.shown != "" {
			ahead = append(ahead, c.shown)
		}
		wantTexts(t, d, ahead...)
	}
}

// The same in one go.
func TestO2ManyTexts(t *testing.T) {
	d := played(t, formatted(t, 100),
		line{"tick", ""},
		line{"create table t(a int)", ""},
		line{"insert into t values(1)", ""},
		line{"insert into t values(2)", ""},
		line{"insert into u values(2)", "error 5"},
		line{"alter table t retype a text", ""},
		line{"tick", "1"},
		line{"select * from t", "'1'; '2'"},
		line{"tick", "1"},
		line{"tick", ""},
		line{"no", "error 1"},
		line{"update t set a=(a||'0')", "2"},
		line{"delete from t where(a='10')", "1"},
		line{"select * from t", "'20'"})
	wantTexts(t, d, "create table t (a int)", "insert into t values (1)", "insert into t values (2)", "alter table t retype a text", "update t set a = (a || '0')", "delete from t where (a = '10')")
	played(t, d, line{"select * from t", "'20'"}, line{"tick", ""})
}

// What is done in a transaction is one text, when it is committed; and none else.
func TestO2Transactions(t *testing.T) {
	from := played(t, formatted(t, 100), line{"create table t (a int)", ""}, line{"insert into t values (1)", ""})
	for _, c := range []struct {
		name string
		l    []line
		want []string
	}{
		{"committed", []line{{"begin", ""}, {"insert into t values(2)", ""}, {"commit", ""}}, []string{"insert into t values (2)"}},
		{"two", []line{{"begin", ""}, {"insert into t values(2)", ""}, {"drop  table t", ""}, {"commit", ""}}, []string{"insert into t values (2)\ndrop table t"}},
		{"all kinds", []line{
			{"begin", ""}, {"tick", ""}, {"create table u (a int)", ""}, {"select * from t", "1"}, {"alter table u retype a text", ""}, {"tick", "1"}, {"insert into u values (1)", "error 7"},
			{"insert into u values ('x')", ""}, {"begin", "error 4"}, {"update u set a = (a || 'y')", "1"}, {"zz", "error 1"}, {"delete from t", "1"}, {"delete from t", ""}, {"commit", ""},
		}, []string{"create table u (a int)\nalter table u retype a text\ninsert into u values ('x')\nupdate u set a = (a || 'y')\ndelete from t\ndelete from t"}},
		{"rolled back", []line{{"begin", ""}, {"insert into t values (2)", ""}, {"rollback", ""}}, nil},
		{"rolled back, then outside", []line{{"begin", ""}, {"insert into t values (2)", ""}, {"rollback", ""}, {"insert into t values (3)", ""}, {"insert into t values (4)", ""}}, []string{"insert into t values (3)", "insert into t values (4)"}},
		{"rolled back, then committed", []line{{"begin", ""}, {"insert into t values (2)", ""}, {"rollback", ""}, {"begin", ""}, {"insert into t values (3)", ""}, {"commit", ""}}, []string{"insert into t values (3)"}},
		{"rolled back, then nothing", []line{{"begin", ""}, {"insert into t values (2)", ""}, {"rollback", ""}, {"begin", ""}, {"commit", ""}, {"commit", "error 4"}}, nil},
		{"left open", []line{{"begin", ""}, {"insert into t values (2)", ""}, {"select * from t", "1; 2"}}, nil},
		{"left open behind others", []line{{"insert into t values (5)", ""}, {"begin", ""}, {"insert into t values (2)", ""}, {"commit", ""}, {"begin", ""}, {"delete from t", "3"}}, []string{"insert into t values (5)", "insert into t values (2)"}},
		{"nothing", []line{{"begin", ""}, {"commit", ""}}, nil},
		{"nothing done", []line{{"begin", ""}, {"insert into u values (2)", "error 5"}, {"select * from t", "1"}, {"tick", ""}, {"x", "error 1"}, {"commit", ""}}, nil},
		{"of no row", []line{{"begin", ""}, {"delete from t where (a = 2)", ""}, {"commit", ""}}, []string{"delete from t where (a = 2)"}},
		{"none", []line{{"commit", "error 4"}, {"rollback", "error 4"}}, nil},
		{"one behind the other", []line{{"begin", ""}, {"insert into t values (2)", ""}, {"commit", ""}, {"insert into t values (3)", ""}, {"begin", ""}, {"insert into t values (4)", ""}, {"insert into t values (5)", ""}, {"commit", ""}}, []string{"insert into t values (2)", "insert into t values (3)", "insert into t values (4)\ninsert into t values (5)"}},
		{"a rollback too late", []line{{"begin", ""}, {"insert into t values (2)", ""}, {"commit", ""}, {"rollback", "error 4"}}, []string{"insert into t values (2)"}},
	} {
		d, answers, f := Play(from, textsOf(c.l))
		if f != api.OK || !slices.Equal(allInWords(answers), wordsOf(c.l)) {
			t.Errorf("%s: it is %q, %d", c.name, allInWords(answers), f)
		}
		wantTexts(t, d, append([]string{"create table t (a int)", "insert into t values (1)"}, c.want...)...)
	}
}

func wordsOf(l []line) []string {
	var all []string
	for _, x := range l {
		all = append(all, x.want)
	}
	return all
}

// What is answered is what Run answers of what is reopened.
func TestO2AnswersAreThoseOfRun(t *testing.T) {
	l := []string{
		"create table t (a int, b text)", "insert into t values (1, '1')", "insert into t values (2, null)", "alter table t retype a text", "create index i on t (b)",
		"begin", "tick", "insert into t values ('3', '3')", "begin", "tick", "drop table u", "create table u (a bool)", "alter table t drop a", "rollback", "tick",
		"select * from t", "x", "begin", "update t set b = a", "commit", "tick", "tick", "rollback", "select b from t order by b", "begin", "delete from t",
	}
	for from := range l {
		d, _, f := Play(formatted(t, 200), l[:from])
		if f != api.OK {
			t.Fatalf("it is %d", f)
		}
		e := reopened(t, d)
		_, got, f := Play(d, l[from:])
		_, want, _ := Run(e, l[from:])
		if f != api.OK || !same(got, want) {
			t.Errorf("%d: they are %q, %d; want %q", from, allInWords(got), f, allInWords(want))
		}
	}
}

// wantEnd: a play that ends: the error, the answers by then, and the disk as it was.
func wantEnd(t *testing.T, name string, d api.Disk, l []string, want api.Errno, answers int, texts ...string) api.Disk {
	t.Helper()
	got, a, f := Play(d, l)
	if f != want || len(a) != answers {
		t.Fatalf("%s: they are %q, %d; want %d answers, %d", name, allInWords(a), f, answers, want)
	}
	wantTexts(t, got, texts...)
	if _, wanted, _ := Run(reopened(t, d), l[:answers]); !same(a, wanted) {
		t.Errorf("%s: they are %q; want %q", name, allInWords(a), allInWords(wanted))
	}
	return got
}

// A disk of four sectors has room for three texts of one sector each.
func TestO2FullOutside(t *testing.T) {
	d := formatted(t, 4)
	three := []string{"create table t (a int)", "insert into t values (1)", "insert into t values (2)"}
	got := wantEnd(t, "one too many", d, append(slices.Clone(three), "select * from t", "insert into t values (3)", "insert into t values (4)"), api.ErrSpace, 4, three...)
	want, _, f := Play(d, three)
	if f != api.OK || !same(got, want) {
		t.Errorf("it is %+v, %d; want %+v", got, f, want)
	}
	// All that needs no room goes on.
	played(t, got,
		line{"select * from t", "1; 2"}, line{"insert into t values ('x')", "error 7"}, line{"begin", ""}, line{"delete from t", "2"}, line{"rollback", ""}, line{"begin", ""}, line{"tick", ""},
		line{"commit", ""}, line{"begin", ""}, line{"drop table t", ""})
	wantEnd(t, "full", got, []string{"insert into t values (3)"}, api.ErrSpace, 0, three...)
	wantEnd(t, "full behind a transaction", got, []string{"begin", "insert into t values (3)", "rollback", "delete from t", "select * from t"}, api.ErrSpace, 3, three...)
}

func TestO2FullInside(t *testing.T) {
	d := appended(t, formatted(t, 4), "create table t (a int)", "insert into t values (1)")
	l := []string{"begin", "insert into t values (2)", "insert into t values (3)", "insert into t values (4)", "select * from t", "commit", "select * from t"}
	got := wantEnd(t, "two sectors", d, l, api.ErrSpace, 5, "create table t (a int)", "insert into t values (1)")
	if !same(got, d) {
		t.Errorf("it is %+v; want %+v", got, d)
	}
	// What was played ahead of the transaction is there; one that has just room enough is done.
	got = wantEnd(t, "behind another text", d, append([]string{"delete from t"}, l...), api.ErrSpace, 6, "create table t (a int)", "insert into t values (1)", "delete from t")
	if e := reopened(t, got); len(e.Tables[0].Rows) > 0 || e.Within {
		t.Errorf("it is %+v", e)
	}
	got = played(t, d, line{"begin", ""}, line{"insert into t values (2)", ""}, line{"insert into t values (3)", ""}, line{"commit", ""}, line{"select * from t", "1; 2; 3"})
	wantTexts(t, got, "create table t (a int)", "insert into t values (1)", "insert into t values (2)\ninsert into t values (3)")
}

// ofBytes: commands whose texts, with line feeds between, are of just so many bytes (57, or more).
func ofBytes(left int) []string {
	text := func(long int) string { return "delete from t where (a = '" + strings.Repeat("x", long-28) + "')" }
	var l []string
	for left > 97 {
		l = append(l, text(40))
		left -= 41
	}
	return append(l, text((left-1)/2), text(left-1-(left-1)/2))
}

// All commands of a transaction are one text, and have at most as many bytes as a text may have.
func TestO2AsMuchAsATextMayHave(t *testing.T) {
	d := appended(t, formatted(t, 100), "create table t (a text)")
	for _, n := range []int{57, 97, 98, api.MaxText - 1, api.MaxText} {
		l := ofBytes(n)
		text := strings.Join(l, "\n")
		if len(text) != n {
			t.Fatalf("%d bytes; want %d", len(text), n)
		}
		got, answers, f := Play(d, slices.Concat([]string{"begin"}, l, []string{"commit"}))
		if f != api.OK || len(answers) != len(l)+2 {
			t.Errorf("%d: they are %q, %d", n, allInWords(answers), f)
		}
		wantTexts(t, got, "create table t (a text)", text)
	}
	for _, n := range []int{api.MaxText + 1, api.MaxText + 100} {
		l := ofBytes(n)
		got := wantEnd(t, "too long", d, slices.Concat([]string{"begin"}, l, []string{"commit", "select * from t"}), api.ErrMany, len(l)+1, "create table t (a text)")
		if !same(got, d) {
			t.Errorf("it is %+v; want %+v", got, d)
		}
		// Rolled back it is no text.
		got, _, f := Play(d, slices.Concat([]string{"begin"}, l, []string{"rollback"}))
		if f != api.OK || !same(got, d) {
			t.Errorf("it is %+v, %d", got, f)
		}
	}
}

// What was written on a disk, but not kept, is looked at by nobody; it is lost as soon as a text is appended, and stays if none is.
func TestO2WhatWasNotKept(t *testing.T) {
	d := appended(t, formatted(t, 10), "create table t (a int)")
	for _, w := range []api.Written{{Sector: 0, Bytes: strings.Repeat("x", api.SectorSize)}, {Sector: 2, Bytes: strings.Repeat("y", api.SectorSize)}} {
		written, f := disk.Write(d, w.Sector, w.Bytes)
		if f != api.OK {
			t.Fatalf("it is %d", f)
		}
		got := played(t, written, line{"select * from t", ""}, line{"begin", ""}, line{"commit", ""}, line{"begin", ""}, line{"drop table t", ""})
		if !same(got, written) {
			t.Errorf("it is %+v; want %+v", got, written)
		}
		got = played(t, written, line{"insert into t values (1)", ""})
		if want := played(t, d, line{"insert into t values (1)", ""}); !same(got, want) || len(got.Written) > 0 {
			t.Errorf("it is %+v; want %+v", got, want)
		}
	}
}

// Texts of others may lie there, too: a transaction that these began is ended by what is played.
func TestO2FromWithin(t *testing.T) {
	ahead := []string{"create table t (a int)", "begin\ninsert into t values (1)"}
	d := appended(t, formatted(t, 20), ahead...)
	got := played(t, d, line{"begin", "error 4"}, line{"insert into t values (2)", ""}, line{"select * from t", "1; 2"})
	wantTexts(t, got, ahead...)
	got = played(t, d, line{"insert into t values (2)", ""}, line{"drop table t", ""}, line{"commit", ""}, line{"create table u (a int)", ""})
	wantTexts(t, got, append(ahead, "insert into t values (2)\ndrop table t", "create table u (a int)")...)
	got = played(t, d, line{"insert into t values (2)", ""}, line{"rollback", ""}, line{"select * from t", ""}, line{"insert into t values (3)", ""})
	wantTexts(t, got, append(ahead, "insert into t values (3)")...)
	got = played(t, d, line{"commit", ""}, line{"commit", "error 4"})
	wantTexts(t, got, ahead...)
}

// Too many texts tell first, then the disk, then whether texts are there; with any of these there is neither a disk nor an answer.
func TestO2Errors(t *testing.T) {
	full := make([]string, api.MaxCmds)
	blank, _ := disk.New(4)
	small, _ := disk.New(1)
	short := formatted(t, 4)
	short.Kept[2] = "x"
	none := formatted(t, 4)
	none.Written = []api.Written{{Sector: 4, Bytes: blank.Kept[0]}}
	much := formatted(t, 4)
	much.Written = make([]api.Written, api.MaxSectors+1)
	for _, c := range []struct {
		name string
		d    api.Disk
		want api.Errno
	}{
		{"no disk", api.Disk{}, api.ErrRange},
		{"a short sector", short, api.ErrForm},
		{"written where no sector is", none, api.ErrNone},
		{"much is written", much, api.ErrMany},
		{"nothing is there", blank, api.ErrState},
		{"nothing is there", small, api.ErrState},
		{"all is well", formatted(t, 4), api.OK},
	} {
		for _, n := range []int{0, 1, api.MaxCmds, api.MaxCmds + 1, 1000} {
			want := c.want
			if n > api.MaxCmds {
				want = api.ErrMany
			}
			got, answers, f := Play(c.d, make([]string, n))
			if f != want || want != api.OK && (!same(got, api.Disk{}) || len(answers) > 0) || want == api.OK && (!same(got, c.d) || len(answers) != n) {
				t.Errorf("%s, %d texts: it is %+v, %q, %d; want %d", c.name, n, got, allInWords(answers), f, want)
			}
		}
		if e, f := Reopen(c.d); f != c.want || !same(e, api.Engine{}) {
			t.Errorf("%s: it is %+v, %d; want %d", c.name, e, f, c.want)
		}
	}
	d := played(t, formatted(t, 200), line{"create table t (a int)", ""})
	full[0], full[59] = "insert into t values (1)", "select * from t"
	got, answers, f := Play(d, full)
	if f != api.OK || inWords(answers[59]) != "1" {
		t.Errorf("they are %q, %d", allInWords(answers), f)
	}
	wantTexts(t, got, "create table t (a int)", "insert into t values (1)")
}
