package journal

import (
	"math"
	"math/rand"
	"slices"
	"strings"
	"testing"

	"overhaul/api"
	"overhaul/disk"
)

func formatted(t *testing.T, sectors int) api.Disk {
	t.Helper()
	d, e := Format(sectors)
	if e != api.OK {
		t.Fatalf("%d: it is %d", sectors, e)
	}
	return d
}

// appended texts, one by one.
func appended(t *testing.T, d api.Disk, l ...string) api.Disk {
	t.Helper()
	for _, s := range l {
		then, _, e := Append(d, s)
		if e != api.OK {
			t.Fatalf("%.20q: it is %d", s, e)
		}
		d = then
	}
	return d
}

func wantTexts(t *testing.T, name string, d api.Disk, want ...string) {
	t.Helper()
	if l, e := Open(d); e != api.OK || !slices.Equal(l, want) {
		t.Fatalf("%s: they are %.100q, %d; want %.100q", name, l, e, want)
	}
}

func wantErrors(t *testing.T, name string, d api.Disk, s string, want api.Errno) {
	t.Helper()
	then, way, e := Append(d, s)
	if e != want || len(then.Kept) > 0 || len(then.Written) > 0 || len(way) > 0 {
		t.Errorf("%s: it is %+v, %+v, %d; want %d", name, then, way, e, want)
	}
}

func sameDisk(a, b api.Disk) bool {
	return slices.Equal(a.Kept, b.Kept) && slices.Equal(a.Written, b.Written)
}

// isStep: is a disk one Write or one Flush further than another? (Told by their lists alone.)
func isStep(from, to api.Disk) bool {
	if n := len(from.Written); len(to.Written) == n+1 {
		w := to.Written[n]
		return slices.Equal(from.Kept, to.Kept) && slices.Equal(from.Written, to.Written[:n]) && w.Sector >= 0 && w.Sector < len(to.Kept) && len(w.Bytes) == api.SectorSize
	}
	kept := slices.Clone(from.Kept)
	for _, w := range from.Written {
		kept[w.Sector] = w.Bytes
	}
	return len(to.Written) == 0 && slices.Equal(kept, to.Kept)
}

// all that texts may be: none, one byte, about as many as a sector has, twice that, most; bytes of all kinds; bytes 0 behind them.
func texts() []string {
	var all []byte
	for i := range 256 {
		all = append(all, byte(i))
	}
	l := []string{"", "a", "a\x00", "\x00", "\x00\x00\x00", string(all), mark, head(1), head(2), head(9), "\n", "'", "\xff\xff", "\x00\x01a"}
	for _, n := range []int{2, 39, 40, 41, 61, 62, 63, 64, 65, 80, 81, 125, 126, 127, 128, 129, 190, 191, 255, 256, 257, 1983, 1984, 1985, 1999, 2000} {
		l = append(l, strings.Repeat("x", n), strings.Repeat("\x00", n))
	}
	return l
}

func TestN1Format(t *testing.T) {
	for _, n := range []int{4, 5, 399, 400} {
		d, e := Format(n)
		if e != api.OK || len(d.Kept) != n || len(d.Written) > 0 || disk.Check(d) != api.OK {
			t.Errorf("%d: it is %+v, %d", n, d, e)
		}
		wantTexts(t, "Format", d)
	}
	for _, n := range []int{math.MinInt, -1, 0, 1, 2, 3, 401, math.MaxInt} {
		if d, e := Format(n); e != api.ErrRange || len(d.Kept) > 0 || len(d.Written) > 0 {
			t.Errorf("%d: it is %+v, %d", n, d, e)
		}
	}
}

func TestN1AppendOpen(t *testing.T) {
	d := formatted(t, 400)
	for i := range 5 {
		d = appended(t, d, texts()[i])
		wantTexts(t, "Append", d, texts()[:i+1]...)
	}
	for _, s := range texts() {
		d := appended(t, formatted(t, 400), s)
		wantTexts(t, "one", d, s)
		d = appended(t, d, "", s, "b", s)
		wantTexts(t, "five", d, s, "", s, "b", s)
	}
}

// The way goes step by step, from what is kept to the answer.
func TestN1Way(t *testing.T) {
	for _, s := range texts() {
		d := appended(t, formatted(t, 400), "first")
		pending := api.Disk{Kept: d.Kept, Written: []api.Written{{Sector: 0, Bytes: d.Kept[1]}, {Sector: 3, Bytes: d.Kept[0]}}}
		for _, from := range []api.Disk{d, pending} {
			then, way, e := Append(from, s)
			if e != api.OK || len(way) == 0 || len(then.Written) > 0 || !sameDisk(way[len(way)-1], then) {
				t.Fatalf("%.20q: it is %+v by %d steps, %d", s, then, len(way), e)
			}
			at := d
			for i, next := range way {
				if !isStep(at, next) || disk.Check(next) != api.OK {
					t.Fatalf("%.20q: step %d leads from %+v to %+v", s, i, at, next)
				}
				at = next
			}
			wantTexts(t, "the answer", then, "first", s)
		}
	}
}

// What was written, and not kept, is not looked at.
func TestN1ByWhatIsKeptAlone(t *testing.T) {
	d := appended(t, formatted(t, 20), "wren", "tit")
	other := appended(t, d, "owl")
	for _, l := range [][]api.Written{
		{{Sector: 0, Bytes: other.Kept[0]}},
		{{Sector: 0, Bytes: strings.Repeat("?", api.SectorSize)}},
		{{Sector: 1, Bytes: d.Kept[2]}, {Sector: 2, Bytes: d.Kept[1]}},
		slices.Repeat([]api.Written{{Sector: 19, Bytes: d.Kept[1]}}, 400),
	} {
		x := api.Disk{Kept: d.Kept, Written: l}
		wantTexts(t, "Open", x, "wren", "tit")
		then, way, e := Append(x, "owl")
		if e != api.OK || !sameDisk(then, other) || !isStep(d, way[0]) {
			t.Errorf("it is %+v, %d", then, e)
		}
	}
}

// needed: sectors of texts by the document's own sum.
func needed(l ...string) int {
	n := 4
	for _, s := range l {
		n += 2 + (len(s)+39)/40
	}
	return n
}

// Of a disk of each size: nothing that has room by the sum is refused; one that is full is refused, and has its texts.
func TestN1Space(t *testing.T) {
	r := rand.New(rand.NewSource(1))
	full, just := 0, 0
	for sectors := 4; sectors <= 400; sectors++ {
		d := formatted(t, sectors)
		var l []string
		for long := []int{1, 60, 400, 2001}[sectors%4]; ; {
			s := strings.Repeat(string([]byte{byte(r.Intn(256))}), r.Intn(long))
			if left := sectors - needed(l...); left >= 2 && r.Intn(5) == 0 {
				s = strings.Repeat("j", min(40*(left-2), 2000))
			}
			then, way, e := Append(d, s)
			if e == api.ErrSpace {
				if needed(append(l, s)...) <= sectors || len(then.Kept) > 0 || len(way) > 0 {
					t.Fatalf("%d sectors with %d texts have no room for %d bytes: %+v", sectors, len(l), len(s), then)
				}
				full++
				break
			}
			if e != api.OK {
				t.Fatalf("it is %d", e)
			}
			d, l = then, append(l, s)
			if needed(l...) == sectors {
				just++
			}
		}
		wantTexts(t, "full", d, l...)
	}
	if full != 397 || just < 50 {
		t.Errorf("too little was tried: %d, %d", full, just)
	}
}

// Just room enough by the sum, for texts of one length: none is refused.
func TestN1JustRoomEnough(t *testing.T) {
	for n := range api.MaxText + 1 {
		s := strings.Repeat("x", n)
		for _, many := range []int{1, 2, 3, 5, 130} {
			l := slices.Repeat([]string{s}, many)
			sectors := needed(l...)
			if sectors > api.MaxSectors || many > 3 && n%40 > 1 {
				continue
			}
			d := appended(t, formatted(t, sectors), l...)
			wantTexts(t, "just room enough", d, l...)
		}
	}
}

// As our texts lie, each that fits in a sector with its length needs no other one, and no sector is left over.
func TestN1EverySectorIsUsed(t *testing.T) {
	l := []string{"", strings.Repeat("x", 62), "wren"}
	d := appended(t, formatted(t, 4), l...)
	wantTexts(t, "full", d, l...)
	wantErrors(t, "full", d, "", api.ErrSpace)
	wantErrors(t, "one sector too few", appended(t, formatted(t, 4), l[:2]...), strings.Repeat("x", 63), api.ErrSpace)
}

func TestN1Errors(t *testing.T) {
	right := formatted(t, 6)
	full := appended(t, right, "")
	for e := api.OK; e == api.OK; {
		var then api.Disk
		if then, _, e = Append(full, ""); e == api.OK {
			full = then
		}
	}
	strange := api.Disk{Kept: slices.Repeat([]string{strings.Repeat("?", api.SectorSize)}, 6)}
	most, more := strings.Repeat("x", 2000), strings.Repeat("x", 2001)
	for _, x := range []struct {
		name string
		d    api.Disk
		s    string
		want api.Errno
	}{
		{"no sectors", api.Disk{}, more, api.ErrRange},
		{"too many sectors", api.Disk{Kept: make([]string, 401)}, more, api.ErrRange},
		{"a wrong sector", api.Disk{Kept: []string{"x"}}, more, api.ErrForm},
		{"too many written", api.Disk{Kept: right.Kept, Written: make([]api.Written, 401)}, more, api.ErrMany},
		{"no sector written", api.Disk{Kept: right.Kept, Written: []api.Written{{Sector: 6}}}, more, api.ErrNone},
		{"no bytes written", api.Disk{Kept: right.Kept, Written: []api.Written{{}}}, more, api.ErrForm},
		{"a wrong sector of a disk that is not ours", api.Disk{Kept: append(slices.Clone(strange.Kept), "x")}, "a", api.ErrForm},
		{"too long", right, more, api.ErrMany},
		{"too long for a disk that is full", full, more, api.ErrMany},
		{"too long for a disk that is not ours", strange, more, api.ErrMany},
		{"not ours", strange, "a", api.ErrState},
		{"not ours, and no room", strange, most, api.ErrState},
		{"no room", right, most, api.ErrSpace},
		{"full", full, "", api.ErrSpace},
		{"full", full, "a", api.ErrSpace},
	} {
		wantErrors(t, x.name, x.d, x.s, x.want)
		l, e := Open(x.d)
		if want := disk.Check(x.d); want != api.OK && (e != want || len(l) > 0) {
			t.Errorf("%s: they are %q, %d; want %d", x.name, l, e, want)
		}
	}
	appended(t, formatted(t, 400), most)
}
