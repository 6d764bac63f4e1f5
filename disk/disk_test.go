package disk

import (
	"math"
	"math/rand"
	"reflect"
	"slices"
	"strings"
	"testing"

	"overhaul/api"
)

// sector full of one byte.
func sector(b byte) string { return strings.Repeat(string([]byte{b}), api.SectorSize) }

// sectors, each full of one of these bytes.
func sectors(l ...byte) []string {
	var all []string
	for _, b := range l {
		all = append(all, sector(b))
	}
	return all
}

// writes of sectors full of one byte: pairs of a sector and its byte.
func writes(l ...int) []api.Written {
	var all []api.Written
	for i := 0; i < len(l); i += 2 {
		all = append(all, api.Written{Sector: l[i], Bytes: sector(byte(l[i+1]))})
	}
	return all
}

func wantDisk(t *testing.T, name string, got api.Disk, e api.Errno, want api.Disk) {
	t.Helper()
	if e != api.OK || !slices.Equal(got.Kept, want.Kept) || !slices.Equal(got.Written, want.Written) {
		t.Errorf("%s: it is %+v, %d; want %+v", name, got, e, want)
	}
}

func wantError(t *testing.T, name string, got api.Disk, e, want api.Errno) {
	t.Helper()
	if e != want || len(got.Kept) > 0 || len(got.Written) > 0 {
		t.Errorf("%s: it is %+v, %d; want %d", name, got, e, want)
	}
}

func TestM1New(t *testing.T) {
	for _, n := range []int{1, 2, 3, 399, 400} {
		d, e := New(n)
		wantDisk(t, "New", d, e, api.Disk{Kept: sectors(make([]byte, n)...)})
		if e := Check(d); e != api.OK {
			t.Errorf("%d: it is %d", n, e)
		}
	}
	for _, n := range []int{math.MinInt, -1, 0, 401, math.MaxInt} {
		d, e := New(n)
		wantError(t, "New", d, e, api.ErrRange)
	}
}

// many writes, all right ones of a disk of one sector.
func many(n int) []api.Written { return slices.Repeat(writes(0, 7), n) }

type tried struct {
	name string
	d    api.Disk
	want api.Errno
}

// faulty disks, and such as are all but faulty; where several things are wrong, the one that tells first.
func disks() []tried {
	one := sectors(1)
	short, long := []string{sector(1)[1:]}, []string{sector(1) + "\x01"}
	return []tried{
		{"one sector", api.Disk{Kept: one}, api.OK},
		{"as many sectors as there may be", api.Disk{Kept: slices.Repeat(one, 400)}, api.OK},
		{"as many written as may be", api.Disk{Kept: one, Written: many(400)}, api.OK},
		{"the last of the sectors written", api.Disk{Kept: sectors(1, 2, 3), Written: writes(2, 0, 0, 0)}, api.OK},

		{"none", api.Disk{}, api.ErrRange},
		{"too many sectors", api.Disk{Kept: slices.Repeat(one, 401)}, api.ErrRange},
		{"none, and what is written is wrong", api.Disk{Written: make([]api.Written, 401)}, api.ErrRange},
		{"too many sectors, all of them wrong", api.Disk{Kept: make([]string, 401), Written: make([]api.Written, 401)}, api.ErrRange},

		{"an empty sector", api.Disk{Kept: []string{""}}, api.ErrForm},
		{"a short sector", api.Disk{Kept: short}, api.ErrForm},
		{"a long sector", api.Disk{Kept: long}, api.ErrForm},
		{"the last sector is wrong", api.Disk{Kept: slices.Concat(sectors(1, 2), long)}, api.ErrForm},
		{"a wrong sector, and too many written", api.Disk{Kept: short, Written: many(401)}, api.ErrForm},
		{"a wrong sector, and one written that is none", api.Disk{Kept: short, Written: writes(1, 1)}, api.ErrForm},

		{"too many written", api.Disk{Kept: one, Written: many(401)}, api.ErrMany},
		{"too many written, the first wrong", api.Disk{Kept: one, Written: append(writes(1, 1), many(400)...)}, api.ErrMany},

		{"a sector behind the last", api.Disk{Kept: one, Written: writes(1, 1)}, api.ErrNone},
		{"a sector ahead of the first", api.Disk{Kept: one, Written: writes(-1, 1)}, api.ErrNone},
		{"a sector far off", api.Disk{Kept: one, Written: writes(math.MaxInt, 1)}, api.ErrNone},
		{"no sector, and no bytes", api.Disk{Kept: one, Written: []api.Written{{Sector: 1}}}, api.ErrNone},
		{"no sector ahead of wrong bytes", api.Disk{Kept: one, Written: append(writes(1, 1), api.Written{Bytes: "x"})}, api.ErrNone},
		{"the last one written is wrong", api.Disk{Kept: one, Written: append(many(399), writes(1, 1)...)}, api.ErrNone},

		{"no bytes", api.Disk{Kept: one, Written: []api.Written{{}}}, api.ErrForm},
		{"too few bytes", api.Disk{Kept: one, Written: []api.Written{{Bytes: short[0]}}}, api.ErrForm},
		{"too many bytes", api.Disk{Kept: one, Written: []api.Written{{Bytes: long[0]}}}, api.ErrForm},
		{"wrong bytes ahead of no sector", api.Disk{Kept: one, Written: append([]api.Written{{Bytes: "x"}}, writes(1, 1)...)}, api.ErrForm},
	}
}

func TestM1Check(t *testing.T) {
	for _, f := range disks() {
		if e := Check(f.d); e != f.want {
			t.Errorf("%s: it is %d; want %d", f.name, e, f.want)
		}
	}
}

func TestM1AllOthersTellThisFirst(t *testing.T) {
	for _, f := range disks() {
		if f.want == api.OK {
			continue
		}
		for _, w := range append(writes(0, 1), api.Written{Sector: -1}, api.Written{Bytes: "x"}) {
			d, e := Write(f.d, w.Sector, w.Bytes)
			wantError(t, f.name, d, e, f.want)
		}
		d, e := Flush(f.d)
		wantError(t, f.name, d, e, f.want)
		d, e = Crash(f.d, nil)
		wantError(t, f.name, d, e, f.want)
		d, e = Crash(f.d, []bool{true})
		wantError(t, f.name, d, e, f.want)
	}
}

func TestM2Write(t *testing.T) {
	d := api.Disk{Kept: sectors(1, 2, 3)}
	for i, w := range [][]api.Written{writes(2, 9), writes(2, 9, 0, 8), writes(2, 9, 0, 8, 2, 7), writes(2, 9, 0, 8, 2, 7, 2, 7)} {
		got, e := Write(d, w[i].Sector, w[i].Bytes)
		wantDisk(t, "Write", got, e, api.Disk{Kept: sectors(1, 2, 3), Written: w})
		d = got
	}
}

func TestM2WriteErrors(t *testing.T) {
	right, full := api.Disk{Kept: sectors(1, 2), Written: writes(1, 9)}, api.Disk{Kept: sectors(1), Written: many(400)}
	for _, x := range []struct {
		d      api.Disk
		sector int
		s      string
		want   api.Errno
	}{
		{right, -1, sector(0), api.ErrNone},
		{right, 2, sector(0), api.ErrNone},
		{right, math.MinInt, sector(0), api.ErrNone},
		{right, 2, "", api.ErrNone},
		{right, 1, "", api.ErrForm},
		{right, 1, sector(0)[1:], api.ErrForm},
		{right, 0, sector(0) + "\x00", api.ErrForm},
		{full, 1, "", api.ErrNone},
		{full, 1, sector(0), api.ErrNone},
		{full, 0, "x", api.ErrForm},
		{full, 0, sector(0), api.ErrMany},
	} {
		d, e := Write(x.d, x.sector, x.s)
		wantError(t, "Write", d, e, x.want)
	}
	d, e := Write(api.Disk{Kept: sectors(1), Written: many(399)}, 0, sector(7))
	wantDisk(t, "Write", d, e, full)
}

func TestM2Flush(t *testing.T) {
	for _, x := range []struct {
		written []api.Written
		want    []string
	}{
		{nil, sectors(1, 2, 3)},
		{writes(0, 9), sectors(9, 2, 3)},
		{writes(2, 9, 1, 8), sectors(1, 8, 9)},
		{writes(1, 9, 1, 8, 1, 7), sectors(1, 7, 3)},
		{writes(1, 7, 2, 8, 1, 9), sectors(1, 9, 8)},
	} {
		d, e := Flush(api.Disk{Kept: sectors(1, 2, 3), Written: x.written})
		wantDisk(t, "Flush", d, e, api.Disk{Kept: x.want})
	}
}

func TestM2Crash(t *testing.T) {
	d := api.Disk{Kept: sectors(1, 2, 3), Written: writes(1, 9, 1, 8, 0, 7)}
	for _, x := range []struct {
		keep []bool
		want []string
	}{
		{nil, sectors(1, 2, 3)},
		{[]bool{}, sectors(1, 2, 3)},
		{[]bool{false, false, false}, sectors(1, 2, 3)},
		{[]bool{true}, sectors(1, 9, 3)},
		{[]bool{false, true}, sectors(1, 8, 3)},
		{[]bool{true, true}, sectors(1, 8, 3)},
		{[]bool{true, false, true}, sectors(7, 9, 3)},
		{[]bool{false, false, true}, sectors(7, 2, 3)},
		{[]bool{true, true, true}, sectors(7, 8, 3)},
		{[]bool{false, false, false, true}, sectors(1, 2, 3)},
		{slices.Repeat([]bool{true}, 1000), sectors(7, 8, 3)},
	} {
		got, e := Crash(d, x.keep)
		wantDisk(t, "Crash", got, e, api.Disk{Kept: x.want})
	}
	got, e := Crash(api.Disk{Kept: sectors(1)}, []bool{true, true})
	wantDisk(t, "Crash", got, e, api.Disk{Kept: sectors(1)})
}

// play some writes, flushes and crashes, and hold the disk against numbers that are kept beside it.
func play(t *testing.T, r *rand.Rand) (crashes int) {
	t.Helper()
	sure := make([]byte, 1+r.Intn(6))
	d, _ := New(len(sure))
	var pending [][2]int
	settle := func(is func(int) bool) {
		for i, p := range pending {
			if is(i) {
				sure[p[0]] = byte(p[1])
			}
		}
		pending = nil
	}
	for range 200 {
		var e api.Errno
		switch k := r.Intn(12); {
		case k == 0:
			d, e = Flush(d)
			settle(func(int) bool { return true })
		case k == 1:
			keep := make([]bool, r.Intn(len(pending)+3))
			for i := range keep {
				keep[i] = r.Intn(2) == 0
			}
			d, e = Crash(d, keep)
			settle(func(i int) bool { return i < len(keep) && keep[i] })
			crashes++
		default:
			p := [2]int{r.Intn(len(sure)), r.Intn(256)}
			d, e = Write(d, p[0], sector(byte(p[1])))
			pending = append(pending, p)
		}
		var written []api.Written
		for _, p := range pending {
			written = append(written, writes(p[0], p[1])...)
		}
		wantDisk(t, "behind some steps", d, e, api.Disk{Kept: sectors(sure...), Written: written})
	}
	return crashes
}

func TestM2Drawn(t *testing.T) {
	r := rand.New(rand.NewSource(1))
	crashes := 0
	for range 100 {
		crashes += play(t, r)
	}
	if crashes < 1000 {
		t.Errorf("too little was tried: %d", crashes)
	}
}

// What was flushed is there behind every crash, but where something was written since, and kept.
func TestM3FlushedStays(t *testing.T) {
	d, _ := New(3)
	d, _ = Write(d, 0, sector(5))
	d, _ = Write(d, 1, sector(6))
	d, _ = Flush(d)
	lost, e := Crash(d, nil)
	wantDisk(t, "nothing written", lost, e, api.Disk{Kept: sectors(5, 6, 0)})
	d, _ = Write(d, 1, sector(7))
	d, _ = Write(d, 2, sector(8))
	for _, x := range []struct {
		keep []bool
		want []string
	}{
		{nil, sectors(5, 6, 0)},
		{[]bool{true}, sectors(5, 7, 0)},
		{[]bool{false, true}, sectors(5, 6, 8)},
		{[]bool{true, true}, sectors(5, 7, 8)},
	} {
		first, e := Crash(d, x.keep)
		wantDisk(t, "a crash", first, e, api.Disk{Kept: x.want})
		second, e := Crash(first, []bool{true, true})
		wantDisk(t, "a crash behind it", second, e, api.Disk{Kept: x.want})
	}
}

// Each answer is new memory; what was handed in may be changed then.
func TestM2AnswersAreNew(t *testing.T) {
	room := append(many(3), api.Written{Sector: 3, Bytes: "beyond"})[:3]
	d := api.Disk{Kept: sectors(1, 2), Written: room}
	was := api.Disk{Kept: slices.Clone(d.Kept), Written: slices.Clone(d.Written)}
	a, _ := Write(d, 1, sector(4))
	b, _ := Write(d, 1, sector(5))
	f, _ := Flush(d)
	c, _ := Crash(d, nil)
	if !reflect.DeepEqual(d, was) || room[:4][3].Bytes != "beyond" {
		t.Fatalf("it is %+v", d)
	}
	d.Kept[0], d.Written[0].Sector = "spoilt", 99
	wantDisk(t, "Write", a, api.OK, api.Disk{Kept: was.Kept, Written: append(many(3), writes(1, 4)...)})
	wantDisk(t, "Write", b, api.OK, api.Disk{Kept: was.Kept, Written: append(many(3), writes(1, 5)...)})
	wantDisk(t, "Flush", f, api.OK, api.Disk{Kept: sectors(7, 2)})
	wantDisk(t, "Crash", c, api.OK, api.Disk{Kept: was.Kept})
}
