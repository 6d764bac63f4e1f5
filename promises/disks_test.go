package promises

import (
	"math"
	"math/rand"
	"reflect"
	"slices"
	"strings"
	"testing"

	"overhaul/api"
	"overhaul/disk"
	"overhaul/journal"
)

func sector(b byte) string { return strings.Repeat(string([]byte{b}), api.SectorSize) }

// disks: some on which something was written, and some with texts, with all disks on their way.
func disks(t *testing.T) []api.Disk {
	t.Helper()
	d, _ := disk.New(3)
	l := []api.Disk{{}, d}
	for i, b := range []byte{1, 2, 3, 4} {
		d, _ = disk.Write(d, i%3, sector(b))
		l = append(l, d)
	}
	for _, n := range []int{4, 20} {
		d, _ := journal.Format(n)
		l = append(l, d)
		for _, s := range []string{"wren", "", strings.Repeat("x", 200), "tit\x00"} {
			then, way, e := journal.Append(d, s)
			if e == api.OK {
				l, d = append(l, way...), then
			}
		}
	}
	return l
}

func TestP1P2P3OfDisks(t *testing.T) {
	for _, n := range []int{-1, 0, 1, 3, 4, 5, 400, 401} {
		wantAll(t, call{"New", disk.New, []any{n}})
		wantAll(t, call{"Format", journal.Format, []any{n}})
	}
	for _, d := range disks(t) {
		wantAll(t, call{"Check", disk.Check, []any{d}})
		wantAll(t, call{"Flush", disk.Flush, []any{d}})
		for _, keep := range [][]bool{nil, {true}, {false, true}, {true, true, true, true, true}} {
			wantAll(t, call{"Crash", disk.Crash, []any{d, keep}})
		}
		for _, w := range []api.Written{{Bytes: sector(9)}, {Sector: 2, Bytes: sector(8)}, {Sector: -1, Bytes: sector(9)}, {Sector: 1, Bytes: "x"}} {
			wantAll(t, call{"Write", disk.Write, []any{d, w.Sector, w.Bytes}})
		}
	}
}

func TestP1P2P3OfTexts(t *testing.T) {
	for _, d := range disks(t) {
		wantAll(t, call{"Open", journal.Open, []any{d}})
		for _, s := range []string{"", "a", strings.Repeat("y", 100), strings.Repeat("z", api.MaxText), strings.Repeat("z", api.MaxText+1)} {
			wantAll(t, call{"Append", journal.Append, []any{d, s}})
		}
	}
}

// A way is as it was, when what it led from is changed; so are two ways from one disk.
func TestP2WaysStand(t *testing.T) {
	d, _ := journal.Format(20)
	d, _, _ = journal.Append(d, "wren")
	d, _ = disk.Write(d, 5, sector(5))
	from := deep(reflect.ValueOf(d), 3).Interface().(api.Disk)
	_, one, _ := journal.Append(from, "tit")
	first := whole(reflect.ValueOf(one))
	_, other, _ := journal.Append(from, "owl")
	spoil(settable(reflect.ValueOf(other)))
	for i := range one {
		then, way, _ := journal.Append(one[i], "emu")
		spoil(settable(reflect.ValueOf(then)))
		spoil(settable(reflect.ValueOf(way)))
		flushed, _ := disk.Flush(one[i])
		spoil(settable(reflect.ValueOf(flushed)))
	}
	spoil(settable(reflect.ValueOf(from)))
	if !same(whole(reflect.ValueOf(one)), first) {
		t.Errorf("it is %+v, and was %+v", one, first)
	}
}

// junkedDisk: some of it becomes something else; often sectors stay sectors, and bytes of them are others.
func junkedDisk(r *rand.Rand, d api.Disk) api.Disk {
	if len(d.Kept) == 0 || r.Intn(2) == 0 {
		return junked(r, d)
	}
	d.Kept, d.Written = slices.Clone(d.Kept), slices.Clone(d.Written)
	for range 1 + r.Intn(3) {
		at := r.Intn(len(d.Kept))
		b := []byte(d.Kept[at])
		b[r.Intn(len(b))] = byte(r.Intn(256))
		d.Kept[at] = string(b)
	}
	return d
}

// What is wrong with the disk is all that is told, whichever call it is; then what is wrong with the rest, in its order; what comes of right ones is right.
func TestP1JunkOfDisks(t *testing.T) {
	r := rand.New(rand.NewSource(5))
	seen := map[api.Errno]int{}
	for _, d := range disks(t) {
		for range 300 {
			d := junkedDisk(r, d)
			want := disk.Check(d)
			seen[want]++
			s := strings.Repeat("x", []int{63, 64, 64, 64, 65}[r.Intn(5)])
			w, e := disk.Write(d, r.Intn(5)-1, s)
			f, g := disk.Flush(d)
			c, h := disk.Crash(d, junked(r, []bool{true, false}))
			if want != api.OK && (e != want || g != want || h != want) {
				t.Fatalf("%+v: they are %d, %d, %d; want %d", d, e, g, h, want)
			}
			for _, x := range []struct {
				d api.Disk
				e api.Errno
			}{{w, e}, {f, g}, {c, h}} {
				if x.e == api.OK && disk.Check(x.d) != api.OK || x.e != api.OK && !isEmpty(reflect.ValueOf(x.d)) {
					t.Fatalf("it is %+v, %d", x.d, x.e)
				}
			}
		}
	}
	if len(seen) < 4 || seen[api.OK] < 1000 {
		t.Errorf("too little was tried: %v", seen)
	}
}

func TestP1JunkOfTexts(t *testing.T) {
	r := rand.New(rand.NewSource(6))
	seen := map[api.Errno]int{}
	for _, d := range disks(t) {
		for range 300 {
			d := junkedDisk(r, d)
			want := disk.Check(d)
			s := strings.Repeat("x", r.Intn(2)*r.Intn(api.MaxText+200))
			l, e := journal.Open(d)
			if want != api.OK && e != want || want == api.OK && e != api.OK && e != api.ErrState || e != api.OK && len(l) > 0 {
				t.Fatalf("%+v: they are %q, %d; want %d", d, l, e, want)
			}
			if want == api.OK && len(s) > api.MaxText {
				want = api.ErrMany
			}
			then, way, f := journal.Append(d, s)
			seen[f]++
			if want != api.OK && f != want || want == api.OK && f != api.OK && f != api.ErrState && f != api.ErrSpace {
				t.Fatalf("%+v: it is %d; want %d", d, f, want)
			}
			if f != api.OK && (len(way) > 0 || !isEmpty(reflect.ValueOf(then))) {
				t.Fatalf("%+v: it is %+v, %+v, %d", d, then, way, f)
			}
			if f == api.OK && !same(reflect.ValueOf(way[len(way)-1]), reflect.ValueOf(then)) {
				t.Fatalf("%+v: it is %+v; the way is %+v", d, then, way)
			}
		}
	}
	if len(seen) < 7 || seen[api.OK] < 500 {
		t.Errorf("too little was tried: %v", seen)
	}
}

func TestP4MuchOnDisks(t *testing.T) {
	right, _ := journal.Format(400)
	long := strings.Repeat("x", 100000000)
	for i, c := range []struct {
		d    api.Disk
		s    string
		want api.Errno
	}{
		{api.Disk{Kept: make([]string, 10000000)}, "", api.ErrRange},
		{api.Disk{Kept: []string{long}}, "", api.ErrForm},
		{api.Disk{Kept: right.Kept, Written: make([]api.Written, 10000000)}, "", api.ErrMany},
		{api.Disk{Kept: right.Kept, Written: []api.Written{{Sector: math.MaxInt, Bytes: long}}}, "", api.ErrNone},
		{api.Disk{Kept: right.Kept, Written: []api.Written{{Bytes: long}}}, "", api.ErrForm},
		{right, long, api.ErrMany},
	} {
		if _, _, e := journal.Append(c.d, c.s); e != c.want {
			t.Errorf("%d: it is %d; want %d", i, e, c.want)
		}
		if c.s != "" {
			c.want = api.OK
		}
		_, e := disk.Flush(c.d)
		_, f := disk.Crash(c.d, make([]bool, 100000000))
		_, g := journal.Open(c.d)
		if e != c.want || f != c.want || g != c.want {
			t.Errorf("%d: they are %d, %d, %d; want %d", i, e, f, g, c.want)
		}
	}
	if _, e := disk.Write(right, 0, long); e != api.ErrForm {
		t.Errorf("it is %d", e)
	}
}
