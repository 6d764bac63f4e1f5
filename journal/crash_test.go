package journal

import (
	"math/rand"
	"slices"
	"strings"
	"testing"

	"overhaul/api"
	"overhaul/disk"
)

// keeps: all that a crash may keep of so many writes; if they are too many to try, all, none, one, all but one, the first ones, the last ones, and some that are drawn.
func keeps(r *rand.Rand, many int) [][]bool {
	all := func(is func(int) bool) []bool {
		keep := make([]bool, many)
		for i := range keep {
			keep[i] = is(i)
		}
		return keep
	}
	var l [][]bool
	if many <= 5 {
		for set := range 1 << many {
			l = append(l, all(func(i int) bool { return set>>i&1 == 1 }))
		}
		return l
	}
	for n := range many + 1 {
		l = append(l, all(func(i int) bool { return i == n }), all(func(i int) bool { return i != n }), all(func(i int) bool { return i < n }), all(func(i int) bool { return i >= n }))
	}
	for range 20 {
		l = append(l, all(func(int) bool { return r.Intn(2) == 0 }))
	}
	return l
}

// crashed: each disk that a crash at some step makes, but for those that are as one ahead of them.
func crashed(t *testing.T, r *rand.Rand, way []api.Disk) []api.Disk {
	t.Helper()
	var l []api.Disk
	seen := map[string]int{}
	for _, d := range way {
		for _, keep := range keeps(r, len(d.Written)) {
			x, e := disk.Crash(d, keep)
			if e != api.OK {
				t.Fatalf("it is %d", e)
			}
			all := strings.Join(x.Kept, "")
			if seen[all]++; seen[all] == 1 {
				l = append(l, x)
			}
		}
	}
	return l
}

// wantWholeOrNot: the texts that a disk has behind a crash: those that were there, and the one on its way, or not.
func wantWholeOrNot(t *testing.T, d api.Disk, were []string, s string) []string {
	t.Helper()
	l, e := Open(d)
	if e != api.OK || !slices.Equal(l, were) && !slices.Equal(l, append(slices.Clone(were), s)) {
		t.Fatalf("on the way of %.40q there are %.100q, %d; there were %.100q", s, l, e, were)
	}
	return l
}

// Each crash at each step of a way, then each at each step of another way behind it, and a third text behind both.
func TestN3CrashBehindCrash(t *testing.T) {
	r := rand.New(rand.NewSource(1))
	whole, not := 0, 0
	l := []string{"", "a", strings.Repeat("b", 62), strings.Repeat("c", 63), strings.Repeat("d", 64), head(2), strings.Repeat("\x00\x01", 70), strings.Repeat("e", 250)}
	for _, were := range [][]string{nil, {"wren"}, {"", strings.Repeat("f", 130), ""}} {
		d := appended(t, formatted(t, 40), were...)
		for _, first := range l {
			_, way, _ := Append(d, first)
			wantTexts(t, "the last step", way[len(way)-1], append(slices.Clone(were), first)...)
			for _, x := range crashed(t, r, way) {
				had := wantWholeOrNot(t, x, were, first)
				if len(had) > len(were) {
					whole++
				} else {
					not++
				}
				for _, second := range l {
					then, way, e := Append(x, second)
					if e != api.OK {
						t.Fatalf("it is %d", e)
					}
					wantTexts(t, "behind a crash", then, append(slices.Clone(had), second)...)
					for _, y := range crashed(t, r, way) {
						wantWholeOrNot(t, y, had, second)
					}
				}
			}
		}
	}
	if whole < 20 || not < 100 {
		t.Errorf("too little was tried: %d, %d", whole, not)
	}
}

// Likewise with the longest text, on a disk that is then full by the sum.
func TestN3CrashOnTheWayOfTheLongest(t *testing.T) {
	r := rand.New(rand.NewSource(2))
	longest := strings.Repeat("x", api.MaxText)
	d := appended(t, formatted(t, needed("wren", longest)), "wren")
	_, way, e := Append(d, longest)
	if e != api.OK {
		t.Fatalf("it is %d", e)
	}
	l := crashed(t, r, way)
	for _, x := range l {
		had := wantWholeOrNot(t, x, []string{"wren"}, longest)
		if len(had) == 2 {
			continue
		}
		for _, s := range []string{"", strings.Repeat("y", 1000), longest} {
			then, way, e := Append(x, s)
			if e != api.OK {
				t.Fatalf("it is %d", e)
			}
			wantTexts(t, "behind a crash", then, "wren", s)
			if r.Intn(10) == 0 {
				for _, y := range crashed(t, r, way) {
					wantWholeOrNot(t, y, had, s)
				}
			}
		}
	}
	if len(l) < 50 {
		t.Errorf("too little was tried: %d", len(l))
	}
}

// At each step by itself, what is kept alone has the texts that were there, or the new one, too; once it is there, it stays.
func TestN3StepByStep(t *testing.T) {
	for _, s := range texts() {
		d := appended(t, formatted(t, 60), "wren")
		_, way, _ := Append(d, s)
		is := false
		for _, x := range way {
			now := len(wantWholeOrNot(t, x, []string{"wren"}, s)) == 2
			if is && !now {
				t.Fatalf("%.40q is there no more", s)
			}
			is = now
		}
		if !is {
			t.Fatalf("%.40q is not there behind the last step", s)
		}
	}
}

// long: one disk from its formatting on, with ways, steps of them, and crashes, till it is full; what is there is told beside it.
func long(t *testing.T, r *rand.Rand) (crashes, wholes int) {
	t.Helper()
	d := formatted(t, 4+r.Intn(397))
	var l []string
	for refused := 0; refused < 3; {
		s := strings.Repeat(string([]byte{byte(r.Intn(256))}), []int{r.Intn(3), r.Intn(200), r.Intn(2001)}[r.Intn(3)])
		then, way, e := Append(d, s)
		switch {
		case e == api.ErrSpace:
			if needed(append(l, s)...) <= len(d.Kept) {
				t.Fatalf("%d sectors have no room", len(d.Kept))
			}
			refused++
		case e != api.OK:
			t.Fatalf("it is %d", e)
		case r.Intn(2) == 0:
			d, l = then, append(l, s)
		default:
			// What comes next goes on from a step of the way: as it is, or behind a crash.
			d = way[r.Intn(len(way))]
			crashes++
			if all := keeps(r, len(d.Written)); r.Intn(4) > 0 {
				d, _ = disk.Crash(d, all[r.Intn(len(all))])
			}
			was := len(l)
			l = wantWholeOrNot(t, d, l, s)
			wholes += len(l) - was
		}
		wantTexts(t, "so far", d, l...)
	}
	return crashes, wholes
}

func TestN3Drawn(t *testing.T) {
	r := rand.New(rand.NewSource(3))
	crashes, wholes := 0, 0
	for range 200 {
		c, w := long(t, r)
		crashes, wholes = crashes+c, wholes+w
	}
	if crashes < 2000 || wholes < 200 {
		t.Errorf("too little was tried: %d, %d", crashes, wholes)
	}
}

// Disks that were never formatted have no texts.
func TestN2NotFormatted(t *testing.T) {
	empty, _ := disk.New(10)
	letters, _ := disk.New(4)
	for i := range letters.Kept {
		letters.Kept[i] = strings.Repeat("x", api.SectorSize)
	}
	moved := formatted(t, 5)
	moved.Kept = append(moved.Kept[1:], moved.Kept[0])
	for i, d := range []api.Disk{empty, letters, moved} {
		if l, e := Open(d); e != api.ErrState || len(l) > 0 {
			t.Errorf("%d: they are %q, %d", i, l, e)
		}
		wantErrors(t, "not ours", d, "a", api.ErrState)
		wantErrors(t, "not ours", d, strings.Repeat("a", 2000), api.ErrState)
	}
}

// altered: a disk of which some bytes, or some sectors, are others.
func altered(r *rand.Rand, d api.Disk) api.Disk {
	kept := slices.Clone(d.Kept)
	for range 1 + r.Intn(3) {
		at, from := r.Intn(min(len(kept), 5)), r.Intn(len(kept))
		switch b := []byte(kept[at]); r.Intn(5) {
		case 0:
			kept[at] = kept[from]
		case 1:
			kept = kept[:max(1, from)]
		case 2:
			b[len(mark)+r.Intn(2)] = byte(r.Intn(9))
			kept[at] = string(b)
		default:
			b[[]int{r.Intn(2), r.Intn(len(b))}[r.Intn(2)]] = []byte{0, 1, 2, 7, 8, 62, 255}[r.Intn(7)]
			kept[at] = string(b)
		}
	}
	return api.Disk{Kept: kept}
}

// Of disks that are not ours there is ErrState, or some texts; Append has the same to say, and what comes of it is a disk that a way leads to.
func TestN2NotOurs(t *testing.T) {
	r := rand.New(rand.NewSource(4))
	seen := map[api.Errno]int{}
	for range 20000 {
		n := 4 + r.Intn(30)
		d := formatted(t, n)
		for _, s := range []string{"wren", strings.Repeat("x", r.Intn(200)), "", "tit"} {
			if then, _, e := Append(d, s); e == api.OK {
				d = then
			}
		}
		d = altered(r, d)
		l, e := Open(d)
		seen[e]++
		if e != api.OK && (e != api.ErrState || len(l) > 0) {
			t.Fatalf("%q: they are %q, %d", d.Kept, l, e)
		}
		s := strings.Repeat("y", r.Intn(300))
		then, way, f := Append(d, s)
		if f != api.OK {
			if f != e && f != api.ErrSpace {
				t.Fatalf("%q: it is %d", d.Kept, f)
			}
			wantErrors(t, "not ours", d, s, f)
			continue
		}
		at := d
		for _, next := range way {
			if !isStep(at, next) {
				t.Fatalf("it goes from %+v to %+v", at, next)
			}
			at = next
		}
		wantTexts(t, "not ours", then, append(l, s)...)
	}
	if seen[api.OK] < 1000 || seen[api.ErrState] < 5000 {
		t.Errorf("too little was tried: %v", seen)
	}
}
