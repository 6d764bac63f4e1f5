package whole

import (
	"math/rand"
	"reflect"
	"slices"
	"strings"
	"testing"

	"overhaul/api"
	"overhaul/command"
	"overhaul/disk"
	"overhaul/engine"
	"overhaul/journal"
	"overhaul/session"
	"overhaul/show"
	"overhaul/tick"
)

// model of a session: what is played, told by the calls of the other chapters.
type model struct {
	api.Engine
	disk  api.Disk
	held  []string
	texts []string // what must lie on the disk
}

// one text: its answer; an error, if it does not come onto the disk.
func (m *model) one(t *testing.T, s string) (a api.Answer, f api.Errno) {
	t.Helper()
	if s == "tick" {
		next, is, _ := tick.Tick(m.Engine)
		m.Engine = next
		return api.Answer{Many: map[bool]int{true: 1}[is]}, api.OK
	}
	c, _, f := command.Parse(s)
	if f != api.OK {
		return api.Answer{Errno: f}, api.OK
	}
	m.Engine, a = do(t, m.Engine, c)
	if a.Errno != api.OK {
		return a, api.OK
	}
	shown, _ := show.Show(c)
	switch {
	case c.Kind == api.CmdBegin, c.Kind == api.CmdRollback:
		m.held = nil
	case c.Kind == api.CmdCommit:
		if len(m.held) > 0 {
			f = m.append(strings.Join(m.held, "\n"))
		}
		m.held = nil
	case c.Kind != api.CmdSelect && m.Within:
		m.held = append(m.held, shown)
	case c.Kind != api.CmdSelect:
		f = m.append(shown)
	}
	return a, f
}

func (m *model) append(s string) api.Errno {
	d, _, f := journal.Append(m.disk, s)
	if f == api.OK {
		m.disk, m.texts = d, append(m.texts, s)
	}
	return f
}

// lasting: what an engine is outside a transaction, all of it clean.
func lasting(t *testing.T, e api.Engine) api.Engine {
	t.Helper()
	if e.Within {
		e = api.Engine{Tables: e.Saved}
	}
	return cleaned(t, e)
}

// sessionText: mostly a command, now and then a tick, or none.
func (d drawer) sessionText(e api.Engine) string {
	switch k := d.Intn(20); {
	case k < 3:
		return "tick"
	case k < 4:
		return d.oneOf("", "x", "tick ", "select", "insert into t values (01)", "begin\ncommit")
	case k < 6 && e.Within:
		return d.oneOf("commit", "commit", "rollback")
	case k < 5:
		return "begin"
	}
	return d.text(e)
}

// selects of all that is there, and of some of it.
func (d drawer) selects(e api.Engine) []string {
	var l []string
	for _, x := range e.Tables {
		l = append(l, "select * from "+x.Name)
		for range 2 {
			if s := d.looking(x); strings.HasPrefix(s, "select") {
				l = append(l, s)
			}
		}
	}
	return l
}

// wantReopened: what is reopened is what was there; whatever a select answers, it answers of that, too.
func wantReopened(t *testing.T, d drawer, name string, x api.Disk, was api.Engine) {
	t.Helper()
	e, f := session.Reopen(x)
	if want := lasting(t, was); f != api.OK || !same(e, want) {
		t.Fatalf("%s: it is %+v, %d; want %+v", name, e, f, want)
	}
	if was.Within {
		return
	}
	for _, s := range d.selects(was) {
		_, want := do(t, was, parsed(t, s))
		_, got, f := session.Play(x, []string{s})
		if f != api.OK || len(got) != 1 || !reflect.DeepEqual(got[0], want) {
			t.Fatalf("%s: %s: it is %+v, %d; want %+v", name, s, got, f, want)
		}
	}
}

// Sessions of drawn texts, one behind the other on one disk, till it has no room: each answer, each text on the disk, and what is reopened.
func TestO4WhatWasPlayedIsReopened(t *testing.T) {
	d := drawer{rand.New(rand.NewSource(21))}
	answers, full, left, joined := 0, 0, 0, 0
	for script := range 60 {
		x, _ := journal.Format([]int{6, 20, 60, 399, 400}[script%5])
		m := model{disk: x}
		for range 6 {
			var l []string
			var want []api.Answer
			var f api.Errno
			was := m.Engine
			for range d.Intn(api.MaxCmds + 1) {
				was = m.Engine
				s := d.sessionText(m.Engine)
				l = append(l, s)
				a, g := m.one(t, s)
				if f = g; f != api.OK {
					m.Engine = was
					full++
					break
				}
				want = append(want, a)
			}
			// What would come behind an error is not looked at.
			if f != api.OK {
				l = append(l, "select * from t", "drop table t")[:min(len(l)+2, api.MaxCmds)]
			}
			then, got, g := session.Play(x, l)
			if g != f || len(got) != len(want) || len(want) > 0 && !reflect.DeepEqual(got, want) {
				t.Fatalf("%q: they are %+v, %d; want %+v, %d", l, got, g, want, f)
			}
			texts, _ := journal.Open(then)
			if !slices.Equal(texts, m.texts) || !reflect.DeepEqual(then, m.disk) {
				t.Fatalf("%q: they are %q; want %q", l, texts, m.texts)
			}
			wantReopened(t, d, "behind a session", then, m.Engine)
			answers += len(got)
			if m.Within {
				left++
			}
			x, m.held, m.Engine = then, nil, lasting(t, m.Engine)
		}
		for _, s := range m.texts {
			joined += strings.Count(s, "\n")
		}
	}
	if answers < 5000 || full < 20 || left < 20 || joined < 100 {
		t.Errorf("too little was tried: %d, %d, %d, %d", answers, full, left, joined)
	}
}

// What comes of texts on an engine that is not clean is told by Run as text by text.
func TestO1DrawnSessions(t *testing.T) {
	d := drawer{rand.New(rand.NewSource(22))}
	for range 60 {
		var e api.Engine
		for range 5 {
			x, _ := journal.Format(400)
			m := model{Engine: e, disk: x}
			var l []string
			var want []api.Answer
			for range d.Intn(api.MaxCmds + 1) {
				l = append(l, d.sessionText(m.Engine))
				a, _ := m.one(t, l[len(l)-1])
				want = append(want, a)
			}
			got, answers, f := session.Run(e, l)
			if f != api.OK || !same(got, m.Engine) || len(want) > 0 && !reflect.DeepEqual(answers, want) {
				t.Fatalf("%q of %+v: it is %+v, %+v, %d; want %+v, %+v", l, e, got, answers, f, m.Engine, want)
			}
			e = got
		}
	}
}

// Whatever crash there is while a session's texts come onto the disk: what is reopened is all that was there, and what was on its way, a transaction too, whole or not at all; and a session goes on from there.
func TestN3CrashesOfSessions(t *testing.T) {
	d := drawer{rand.New(rand.NewSource(23))}
	seen := map[bool]int{}
	parts := 0
	for range 60 {
		x, _ := journal.Format(400)
		m := model{disk: x}
		for range 50 {
			was := m
			m.one(t, d.sessionText(m.Engine))
			if len(m.texts) == len(was.texts) {
				continue
			}
			text := m.texts[len(m.texts)-1]
			_, way, f := journal.Append(was.disk, text)
			if f != api.OK {
				t.Fatalf("it is %d", f)
			}
			for i, at := range way {
				keep := make([]bool, len(at.Written))
				for k := range keep {
					keep[k] = d.Intn(2) == 0
				}
				crashed, _ := disk.Crash(at, keep)
				e, f := session.Reopen(crashed)
				isThere, isAsItWas := same(e, lasting(t, m.Engine)), same(e, lasting(t, was.Engine))
				if f != api.OK || !isThere && !isAsItWas || i == len(way)-1 && !isThere {
					t.Fatalf("step %d of %d: it is %+v, %d; want %+v, or %+v", i, len(way), e, f, lasting(t, was.Engine), lasting(t, m.Engine))
				}
				seen[isThere]++
				parts += strings.Count(text, "\n")
				then, _, f := session.Play(crashed, []string{"tick", "select * from t"})
				if f != api.OK || !reflect.DeepEqual(then, crashed) {
					t.Fatalf("it is %+v, %d", then, f)
				}
			}
			if again, f := session.Reopen(m.disk); f != api.OK || engine.Check(again) != api.OK {
				t.Fatalf("it is %+v, %d", again, f)
			}
		}
	}
	if seen[true] < 500 || seen[false] < 500 || parts < 100 {
		t.Errorf("too little was tried: %v, %d", seen, parts)
	}
}
