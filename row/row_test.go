package row

import (
	"math"
	"math/rand"
	"slices"
	"strings"
	"testing"

	"overhaul/api"
	"overhaul/value"
)

func number(n int) api.Value  { return api.Value{Kind: api.TypeInt, N: n} }
func text(s string) api.Value { return api.Value{Kind: api.TypeText, S: s} }
func truth(n int) api.Value   { return api.Value{Kind: api.TypeBool, N: n} }

var none = api.Value{}

func wantEncode(t *testing.T, l []api.Value, want string, errno api.Errno) {
	t.Helper()
	if s, e := Encode(l); s != want || e != errno {
		t.Errorf("Encode(%v) = %q, %d; want %q, %d", l, s, e, want, errno)
	}
}

func wantDecode(t *testing.T, s string, want []api.Value, errno api.Errno) {
	t.Helper()
	if l, e := Decode(s); !slices.Equal(l, want) || e != errno {
		t.Errorf("Decode(%q) = %v, %d; want %v, %d", s, l, e, want, errno)
	}
}

// example: values and their bytes.
type example struct {
	l []api.Value
	s string
}

func examples() []example {
	twenty := "abcdefghij !~\"\\(),|1"
	return []example{
		{nil, "\x00"},
		{[]api.Value{}, "\x00"},
		{[]api.Value{none}, "\x01\x00"},
		{[]api.Value{number(0)}, "\x01\x01\xff\xc9\x9a\x3b"},
		{[]api.Value{number(1)}, "\x01\x01\x00\xca\x9a\x3b"},
		{[]api.Value{number(-1)}, "\x01\x01\xfe\xc9\x9a\x3b"},
		{[]api.Value{number(-api.MaxInt)}, "\x01\x01\x00\x00\x00\x00"},
		{[]api.Value{number(-api.MaxInt + 0x01020304)}, "\x01\x01\x04\x03\x02\x01"},
		{[]api.Value{number(api.MaxInt)}, "\x01\x01\xfe\x93\x35\x77"},
		{[]api.Value{text("")}, "\x01\x02\x00"},
		{[]api.Value{text("a b")}, "\x01\x02\x03a b"},
		{[]api.Value{text(twenty)}, "\x01\x02\x14" + twenty},
		{[]api.Value{truth(0)}, "\x01\x03\x00"},
		{[]api.Value{truth(1)}, "\x01\x03\x01"},
		{[]api.Value{text("wren"), number(2)}, "\x02\x02\x04wren\x01\x01\xca\x9a\x3b"},
		{[]api.Value{truth(1), none, text("x"), number(-2), none}, "\x05\x03\x01\x00\x02\x01x\x01\xfd\xc9\x9a\x3b\x00"},
		{[]api.Value{none, none, none, none, none}, "\x05\x00\x00\x00\x00\x00"},
	}
}

func TestF1Bytes(t *testing.T) {
	for _, x := range examples() {
		wantEncode(t, x.l, x.s, api.OK)
		wantDecode(t, x.s, x.l, api.OK)
	}
}

type wrongValue struct {
	v     api.Value
	errno api.Errno
}

// wrong values, of each kind.
func wrong() []wrongValue {
	return []wrongValue{
		{api.Value{N: 1}, api.ErrRange},
		{api.Value{S: "a"}, api.ErrRange},
		{number(api.MaxInt + 1), api.ErrRange},
		{number(-api.MaxInt - 1), api.ErrRange},
		{number(math.MaxInt), api.ErrRange},
		{number(math.MinInt), api.ErrRange},
		{number(1 << 32), api.ErrRange},
		{api.Value{Kind: api.TypeInt, S: "1"}, api.ErrRange},
		{text(strings.Repeat("x", api.MaxQuoted+1)), api.ErrRange},
		{text(strings.Repeat("x", 256)), api.ErrRange},
		{text("a'b"), api.ErrRange},
		{text("\n"), api.ErrRange},
		{text("\x7f"), api.ErrRange},
		{text("\u00e4"), api.ErrRange},
		{api.Value{Kind: api.TypeText, N: 1, S: "a"}, api.ErrRange},
		{truth(2), api.ErrRange},
		{truth(-1), api.ErrRange},
		{truth(256), api.ErrRange},
		{api.Value{Kind: api.TypeBool, S: "true"}, api.ErrRange},
		{api.Value{Kind: 4}, api.ErrKind},
		{api.Value{Kind: -1}, api.ErrKind},
		{api.Value{Kind: 256}, api.ErrKind},
		{api.Value{Kind: 257, N: 1}, api.ErrKind},
	}
}

func TestF1EncodeWrong(t *testing.T) {
	for _, w := range wrong() {
		wantEncode(t, []api.Value{w.v}, "", w.errno)
		wantEncode(t, []api.Value{w.v, none, truth(1)}, "", w.errno)
		wantEncode(t, []api.Value{none, number(1), text("a"), truth(1), w.v}, "", w.errno)
	}
	wantEncode(t, []api.Value{none, truth(2), {Kind: 4}}, "", api.ErrRange)
	wantEncode(t, []api.Value{none, {Kind: 4}, truth(2)}, "", api.ErrKind)
}

// Too many are told of ahead of wrong ones.
func TestF1EncodeMany(t *testing.T) {
	for many := range 300 {
		l := make([]api.Value, many)
		if many <= api.MaxColumns {
			wantEncode(t, l, string([]byte{byte(many)})+strings.Repeat("\x00", many), api.OK)
			continue
		}
		wantEncode(t, l, "", api.ErrMany)
		l[0], l[many-1] = api.Value{Kind: 4}, truth(2)
		wantEncode(t, l, "", api.ErrMany)
	}
}

// What lacks a byte, or has one more, is of no values.
func TestF1DecodeCutAndLong(t *testing.T) {
	for _, x := range examples() {
		for k := range len(x.s) {
			wantDecode(t, x.s[:k], nil, api.ErrForm)
		}
		for _, more := range []string{"\x00", "\x01", " ", "\xff", x.s} {
			wantDecode(t, x.s+more, nil, api.ErrForm)
		}
		wantDecode(t, string([]byte{x.s[0] + 1})+x.s[1:], nil, api.ErrForm)
	}
}

func TestF1DecodeNoKind(t *testing.T) {
	for c := 4; c < 256; c++ {
		kind := string([]byte{byte(c)})
		for _, s := range []string{"\x01" + kind, "\x01" + kind + "\x00", "\x02\x00" + kind, "\x02" + kind + "\x00", "\x01" + kind + "\x00\x00\x00\x00", "\x02\x03\x02" + kind} {
			wantDecode(t, s, nil, api.ErrForm)
		}
	}
}

// Of a bool whichever byte it is, there is a value of it; but of 0 and 1 alone a right one.
func TestF1DecodeBools(t *testing.T) {
	for c := range 256 {
		s := "\x01\x03" + string([]byte{byte(c)})
		if c < 2 {
			wantDecode(t, s, []api.Value{truth(c)}, api.OK)
			continue
		}
		wantDecode(t, s, nil, api.ErrRange)
		wantDecode(t, s+"\x00", nil, api.ErrForm)
	}
}

func TestF1DecodeInts(t *testing.T) {
	wantDecode(t, "\x01\x01\xfe\x93\x35\x77", []api.Value{number(api.MaxInt)}, api.OK)
	for _, s := range []string{"\xff\x93\x35\x77", "\xfe\x94\x35\x77", "\x00\x00\x00\x78", "\xff\xff\xff\x7f", "\x00\x00\x00\x80", "\xff\xff\xff\xff"} {
		wantDecode(t, "\x01\x01"+s, nil, api.ErrRange)
		wantDecode(t, "\x02\x00\x01"+s, nil, api.ErrRange)
		wantDecode(t, "\x01\x01"+s[:3], nil, api.ErrForm)
	}
}

func TestF1DecodeTexts(t *testing.T) {
	for n := range 256 {
		s := strings.Repeat("x", n)
		coded := "\x01\x02" + string([]byte{byte(n)}) + s
		if n <= api.MaxQuoted {
			wantDecode(t, coded, []api.Value{text(s)}, api.OK)
		} else {
			wantDecode(t, coded, nil, api.ErrRange)
		}
		wantDecode(t, coded+"x", nil, api.ErrForm)
		wantDecode(t, coded[:len(coded)-1], nil, api.ErrForm)
	}
	for c := range 256 {
		s := "a" + string([]byte{byte(c)})
		if c >= 32 && c <= 126 && c != '\'' {
			wantDecode(t, "\x01\x02\x02"+s, []api.Value{text(s)}, api.OK)
		} else {
			wantDecode(t, "\x01\x02\x02"+s, nil, api.ErrRange)
		}
	}
}

// Bytes of no values tell first, then too many values, then wrong ones.
func TestF1DecodeErrorsInOrder(t *testing.T) {
	for many := api.MaxColumns + 1; many < 256; many++ {
		first := string([]byte{byte(many)})
		wantDecode(t, first, nil, api.ErrForm)
		wantDecode(t, first+strings.Repeat("\x00", many-1), nil, api.ErrForm)
		wantDecode(t, first+strings.Repeat("\x00", many), nil, api.ErrMany)
		wantDecode(t, first+strings.Repeat("\x00", many+1), nil, api.ErrForm)
		wantDecode(t, first+strings.Repeat("\x03\x02", many), nil, api.ErrMany)
		wantDecode(t, first+strings.Repeat("\x03\x02", many-1)+"\x04", nil, api.ErrForm)
	}
	wantDecode(t, "\x02\x03\x02\x04", nil, api.ErrForm)
	wantDecode(t, "\x02\x03\x02", nil, api.ErrForm)
	wantDecode(t, "\x02\x03\x02\x02\x01'", nil, api.ErrRange)
}

// All strings of at most three bytes: these alone are of values.
func TestF1DecodeAllShort(t *testing.T) {
	right := []string{"\x00", "\x01\x00", "\x01\x02\x00", "\x01\x03\x00", "\x01\x03\x01", "\x02\x00\x00"}
	var got []string
	for many := range 4 {
		b := make([]byte, many)
		for {
			if _, e := Decode(string(b)); e == api.OK {
				got = append(got, string(b))
			}
			if !next(b) {
				break
			}
		}
	}
	if !slices.Equal(got, right) {
		t.Errorf("these are decoded: %q; want %q", got, right)
	}
}

// next string of as many bytes; false behind the last one.
func next(b []byte) bool {
	for i := range slices.Backward(b) {
		if b[i]++; b[i] != 0 {
			return true
		}
	}
	return false
}

func drawn(r *rand.Rand) []api.Value {
	var l []api.Value
	for range r.Intn(api.MaxColumns + 1) {
		switch r.Intn(4) {
		case 0:
			l = append(l, none)
		case 1:
			l = append(l, number(r.Intn(2*api.MaxInt+1)-api.MaxInt))
		case 2:
			b := make([]byte, r.Intn(api.MaxQuoted+1))
			for i := range b {
				b[i] = byte(32 + r.Intn(95))
			}
			l = append(l, text(strings.ReplaceAll(string(b), "'", "\"")))
		case 3:
			l = append(l, truth(r.Intn(2)))
		}
	}
	return l
}

func TestF2EncodedIsDecodedAsItWas(t *testing.T) {
	r := rand.New(rand.NewSource(1))
	for range 20000 {
		l := drawn(r)
		s, e := Encode(l)
		if e != api.OK {
			t.Fatalf("Encode(%v) = %d", l, e)
		}
		wantDecode(t, s, l, api.OK)
	}
}

// Whatever is decoded is what its values are encoded to; what is not, tells nothing but an error.
func TestF2NothingElseIsDecoded(t *testing.T) {
	r := rand.New(rand.NewSource(2))
	right, errors := 0, map[api.Errno]int{}
	for range 200000 {
		s, _ := Encode(drawn(r))
		b := []byte(s)
		for range r.Intn(3) {
			if len(b) > 0 {
				b[r.Intn(len(b))] = byte(r.Intn([]int{4, 32, 256}[r.Intn(3)]))
			}
		}
		l, e := Decode(string(b))
		errors[e]++
		if e != api.OK {
			if len(l) != 0 {
				t.Fatalf("Decode(%q) = %v, %d", b, l, e)
			}
			continue
		}
		right++
		for _, v := range l {
			if value.Check(v) != api.OK {
				t.Fatalf("Decode(%q) = %v", b, l)
			}
		}
		wantEncode(t, l, string(b), api.OK)
	}
	if right == 0 || errors[api.ErrForm] == 0 || errors[api.ErrRange] == 0 {
		t.Errorf("too little was tried: %d right ones, %v", right, errors)
	}
}

// Two lists with the same bytes are the same.
func TestF2OtherValuesHaveOtherBytes(t *testing.T) {
	r := rand.New(rand.NewSource(3))
	of := map[string][]api.Value{}
	for range 20000 {
		l := drawn(r)
		s, _ := Encode(l)
		if was, ok := of[s]; ok && !slices.Equal(was, l) {
			t.Fatalf("%v and %v are both %q", was, l, s)
		}
		of[s] = l
	}
}

func TestP1DecodeEndsWhateverItIsHanded(t *testing.T) {
	r := rand.New(rand.NewSource(4))
	for range 100000 {
		b := make([]byte, r.Intn(40))
		for i := range b {
			b[i] = byte(r.Intn([]int{4, 256}[r.Intn(2)]))
		}
		if l, e := Decode(string(b)); e != api.OK && len(l) != 0 {
			t.Fatalf("Decode(%q) = %v, %d", b, l, e)
		}
	}
	wantDecode(t, strings.Repeat("\x00", 1<<20), nil, api.ErrForm)
	wantDecode(t, strings.Repeat("\x02", 1<<20), nil, api.ErrForm)
	wantDecode(t, strings.Repeat("\xff", 1<<20), nil, api.ErrForm)
}

func TestP2EncodeOnlyReads(t *testing.T) {
	all := []api.Value{number(1), text("a"), truth(1), none}
	was := slices.Clone(all)
	wantEncode(t, all[:2], "\x02\x01\x00\xca\x9a\x3b\x02\x01a", api.OK)
	if !slices.Equal(all, was) {
		t.Errorf("%v was %v", all, was)
	}
}

func TestP2DecodedIsTheCallers(t *testing.T) {
	s := "\x02\x02\x01a\x03\x01"
	l, _ := Decode(s)
	l[0], l[1] = none, none
	_ = append(l, number(1))
	wantDecode(t, s, []api.Value{text("a"), truth(1)}, api.OK)
}
