package promises

import (
	"math/rand"
	"reflect"
	"slices"
	"strings"
	"testing"

	"overhaul/api"
	"overhaul/disk"
	"overhaul/engine"
	"overhaul/journal"
	"overhaul/session"
)

// playing: Play, whose error may come with a disk and answers.
func playing(d api.Disk, l []string) (api.Disk, []api.Answer, int) {
	then, answers, e := session.Play(d, l)
	return then, answers, int(e)
}

// played: disks on which parts of the texts were played, with what else may lie on a disk.
func played(t *testing.T) []api.Disk {
	t.Helper()
	l := disks(t)
	for _, sectors := range []int{4, 6, 30, 200} {
		d, _ := journal.Format(sectors)
		l = append(l, d)
		for _, by := range []int{1, 4, 9} {
			for some := range slices.Chunk(texts(), by) {
				d, _, _ = session.Play(d, some)
			}
			written, _ := disk.Write(d, 1, sector(7))
			l = append(l, d, written)
		}
	}
	return l
}

func TestP1P2P3OfSessions(t *testing.T) {
	ticking := append([]string{"tick", "", "x", "select * from bird where legs"}, texts()...)
	for _, e := range engines(t) {
		for _, l := range [][]string{{}, {"tick"}, {"begin", "tick"}, ticking, append(ticking, ticking...), append(ticking[:30:30], ticking...)[:60], make([]string, 61)} {
			wantAll(t, call{"Run", session.Run, []any{e, l}})
		}
		e.Tables = make([]api.Table, 1)
		wantAll(t, call{"Run", session.Run, []any{e, ticking}})
	}
	for _, d := range played(t) {
		wantAll(t, call{"Reopen", session.Reopen, []any{d}})
		for _, l := range [][]string{{}, {"tick"}, {"begin", "commit"}, {"begin", "create table z (a int)"}, {"create table z (a int)", "insert into z values (1)", "select * from z"}, ticking, make([]string, 61)} {
			wantAll(t, call{"Play", playing, []any{d, l}})
		}
	}
}

// What was answered is as it was, whatever is made of it, and of what it came from.
func TestP2SessionsStand(t *testing.T) {
	from := engines(t)[14]
	e, answers, _ := session.Run(from, []string{"begin", "tick", "select * from bird", "select * from bird"})
	first := []reflect.Value{whole(reflect.ValueOf(e)), whole(reflect.ValueOf(answers))}
	for _, s := range append(texts(), "tick", "x") {
		then, other, _ := session.Run(e, []string{s})
		spoil(settable(reflect.ValueOf(then)))
		spoil(settable(reflect.ValueOf(other)))
	}
	spoil(settable(reflect.ValueOf(from)))
	if !same(whole(reflect.ValueOf(e)), first[0]) || !same(whole(reflect.ValueOf(answers)), first[1]) {
		t.Errorf("it is %+v, %+v; it was %+v, %+v", e, answers, first[0], first[1])
	}
	d, _ := journal.Format(60)
	d, _, _ = session.Play(d, texts()[:6])
	was := whole(reflect.ValueOf(d))
	for _, l := range [][]string{{}, {"tick"}, {"drop table bird"}, texts()} {
		then, other, _ := session.Play(d, l)
		spoil(settable(reflect.ValueOf(then)))
		spoil(settable(reflect.ValueOf(other)))
		opened, _ := session.Reopen(d)
		spoil(settable(reflect.ValueOf(opened)))
	}
	if !same(whole(reflect.ValueOf(d)), was) {
		t.Errorf("it is %+v; it was %+v", d, was)
	}
}

// junkedTexts: some are no commands any more, or others.
func junkedTexts(r *rand.Rand, l []string) []string {
	l = slices.Clone(l)
	for range r.Intn(len(l) + 1) {
		at := r.Intn(len(l))
		s := l[at]
		k := r.Intn(len(s) + 1)
		switch r.Intn(5) {
		case 0:
			l[at] = "tick"
		case 1:
			l[at] = s[:k]
		case 2:
			l[at] = s[:k] + string([]byte{byte(r.Intn(256))}) + s[k:]
		case 3:
			l[at] = l[r.Intn(len(l))]
		case 4:
			l[at] = s[:k] + "\n" + s[k:]
		}
	}
	return l
}

// What is wrong with the engine tells first, then too many texts; of right ones, whatever the texts are, what comes is right, with an answer each.
func TestP1JunkOfRun(t *testing.T) {
	r := rand.New(rand.NewSource(8))
	seen := map[api.Errno]int{}
	for _, e := range engines(t) {
		for range 150 {
			e := e
			if r.Intn(2) == 0 {
				e = junked(r, e)
			}
			l := junkedTexts(r, slices.Repeat(texts(), 1+r.Intn(3)))
			want := engine.Check(e)
			if want == api.OK && len(l) > api.MaxCmds {
				want = api.ErrMany
			}
			got, answers, f := session.Run(e, l)
			seen[f]++
			if f != want || f != api.OK && (!isEmpty(reflect.ValueOf(got)) || len(answers) > 0) || f == api.OK && (len(answers) != len(l) || engine.Check(got) != api.OK) {
				t.Fatalf("%q of %+v: it is %+v, %d answers, %d; want %d", l, e, got, len(answers), f, want)
			}
			for _, a := range answers {
				if a.Errno != api.OK && (len(a.Rows) > 0 || a.Many != 0) {
					t.Fatalf("it is %+v", a)
				}
			}
		}
	}
	if len(seen) < 8 || seen[api.OK] < 500 {
		t.Errorf("too little was tried: %v", seen)
	}
}

// Too many texts tell first, then what is wrong with the disk, then with what lies there; what lies there may be anything.
func TestP1JunkOfPlay(t *testing.T) {
	r := rand.New(rand.NewSource(9))
	seen := map[api.Errno]int{}
	for _, d := range played(t) {
		for range 60 {
			d := d
			if r.Intn(2) == 0 {
				d = junkedDisk(r, d)
			}
			l := junkedTexts(r, slices.Repeat(texts(), 1+r.Intn(20)/9))
			_, want := journal.Open(d)
			e, f := session.Reopen(d)
			if f != want || f != api.OK && !isEmpty(reflect.ValueOf(e)) || engine.Check(e) != api.OK {
				t.Fatalf("%+v: it is %+v, %d; want %d", d, e, f, want)
			}
			if len(l) > api.MaxCmds {
				want = api.ErrMany
			}
			then, answers, f := session.Play(d, l)
			seen[f]++
			// A play that ends has the answers by then, and a disk on which no more is.
			isEnd := want == api.OK && (f == api.ErrSpace || f == api.ErrMany) && len(answers) < len(l)
			if f != want && !isEnd || want != api.OK && (len(answers) > 0 || !isEmpty(reflect.ValueOf(then))) || f == api.OK && len(answers) != len(l) {
				t.Fatalf("%+v: it is %+v, %d answers, %d; want %d", d, then, len(answers), f, want)
			}
			if _, g := journal.Open(then); want == api.OK && g != api.OK {
				t.Fatalf("%+v: it is %+v", d, then)
			}
		}
	}
	if len(seen) < 6 || seen[api.OK] < 300 || seen[api.ErrSpace] < 20 {
		t.Errorf("too little was tried: %v", seen)
	}
}

// Other texts lie on a disk than those of a session: all of them are gone through.
func TestP1JunkOnDisks(t *testing.T) {
	r := rand.New(rand.NewSource(10))
	done := 0
	for range 200 {
		d, _ := journal.Format(400)
		for range 8 {
			s := strings.Join(junkedTexts(r, texts()), "\n")
			d, _, _ = journal.Append(d, s[:min(len(s), api.MaxText)])
		}
		e, f := session.Reopen(d)
		if f != api.OK || engine.Check(e) != api.OK {
			t.Fatalf("%+v: it is %+v, %d", d, e, f)
		}
		done += len(e.Tables)
	}
	if done < 50 {
		t.Errorf("too little was tried: %d", done)
	}
}

// Much that is handed in comes to its end, too, and soon.
func TestP4MuchInSessions(t *testing.T) {
	long := strings.Repeat("tick ", 20000000)
	if _, _, f := session.Run(api.Engine{}, make([]string, 10000000)); f != api.ErrMany {
		t.Errorf("it is %d", f)
	}
	d, _ := journal.Format(400)
	if _, _, f := session.Play(d, make([]string, 10000000)); f != api.ErrMany {
		t.Errorf("it is %d", f)
	}
	_, a, f := session.Run(api.Engine{}, []string{long, "tick" + long})
	_, b, g := session.Play(d, []string{long, "tick" + long})
	want := []api.Answer{{Errno: api.ErrMany}, {Errno: api.ErrMany}}
	if f != api.OK || g != api.OK || !same(reflect.ValueOf(a), reflect.ValueOf(want)) || !same(reflect.ValueOf(b), reflect.ValueOf(want)) {
		t.Errorf("they are %+v, %d, %+v, %d", a, f, b, g)
	}
	for range 12 {
		d, _, _ = journal.Append(d, strings.Repeat("\n", api.MaxText))
	}
	if e, f := session.Reopen(d); f != api.OK || !isEmpty(reflect.ValueOf(e)) {
		t.Errorf("it is %+v, %d", e, f)
	}
	if _, f := session.Reopen(api.Disk{Kept: make([]string, 10000000)}); f != api.ErrRange {
		t.Errorf("it is %d", f)
	}
}
