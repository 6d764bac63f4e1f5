package value

import (
	"cmp"
	"math"
	"strconv"
	"strings"
	"testing"

	"overhaul/api"
)

func number(n int) api.Value  { return api.Value{Kind: api.TypeInt, N: n} }
func text(s string) api.Value { return api.Value{Kind: api.TypeText, S: s} }
func truth(n int) api.Value   { return api.Value{Kind: api.TypeBool, N: n} }

var none = api.Value{}

// right values, each ahead of the next.
func rising() []api.Value {
	l := []api.Value{none}
	for _, n := range []int{-api.MaxInt, -api.MaxInt + 1, -100000000, -10, -9, -1, 0, 1, 2, 9, 10, 99, 100, 100000000, api.MaxInt - 1, api.MaxInt} {
		l = append(l, number(n))
	}
	for _, s := range []string{"", " ", "  ", " a", "!", "-0", "-1", "-999999999", "0", "00", "1", "10", "2", "999999999", "A", "FALSE", "a", "a ", "aa", "ab", "b", "false", "false ", "true", "truer", strings.Repeat("x", api.MaxQuoted-1), strings.Repeat("x", api.MaxQuoted), "~"} {
		l = append(l, text(s))
	}
	return append(l, truth(0), truth(1))
}

type wrongValue struct {
	v     api.Value
	errno api.Errno
}

func wrong() []wrongValue {
	l := []wrongValue{
		{api.Value{N: 1}, api.ErrRange},
		{api.Value{N: -1}, api.ErrRange},
		{api.Value{S: "a"}, api.ErrRange},
		{number(api.MaxInt + 1), api.ErrRange},
		{number(-api.MaxInt - 1), api.ErrRange},
		{number(math.MaxInt), api.ErrRange},
		{number(math.MinInt), api.ErrRange},
		{api.Value{Kind: api.TypeInt, N: 1, S: "1"}, api.ErrRange},
		{api.Value{Kind: api.TypeText, N: 1, S: "a"}, api.ErrRange},
		{api.Value{Kind: api.TypeText, N: -1}, api.ErrRange},
		{text(strings.Repeat("x", api.MaxQuoted+1)), api.ErrRange},
		{text(strings.Repeat("x", api.MaxText+1)), api.ErrRange},
		{text("'"), api.ErrRange},
		{text("' '"), api.ErrRange},
		{text("a' 'b"), api.ErrRange},
		{text("''"), api.ErrRange},
		{text("\u00e4"), api.ErrRange},
		{truth(2), api.ErrRange},
		{truth(-1), api.ErrRange},
		{api.Value{Kind: api.TypeBool, N: 1, S: "true"}, api.ErrRange},
		{api.Value{Kind: 4}, api.ErrKind},
		{api.Value{Kind: -1}, api.ErrKind},
		{api.Value{Kind: 4, N: math.MaxInt, S: "'"}, api.ErrKind},
		{api.Value{Kind: math.MinInt, S: "a"}, api.ErrKind},
	}
	for c := range 256 {
		if c < 32 || c > 126 || c == '\'' {
			l = append(l, wrongValue{text(string([]byte{byte(c)})), api.ErrRange}, wrongValue{text("a" + string([]byte{byte(c)}) + "b"), api.ErrRange})
		}
	}
	return l
}

func TestB1Right(t *testing.T) {
	l := rising()
	for c := byte(32); c <= 126; c++ {
		if c != '\'' {
			l = append(l, text(string(rune(c))))
		}
	}
	for _, v := range l {
		if e := Check(v); e != api.OK {
			t.Errorf("Check(%v) = %d", v, e)
		}
	}
}

func TestB1Wrong(t *testing.T) {
	for _, w := range wrong() {
		if e := Check(w.v); e != w.errno {
			t.Errorf("Check(%.60v) = %d; want %d", w.v, e, w.errno)
		}
	}
}

// All calls tell what is wrong with a value ahead of all else, and nothing beside it.
func TestB1AllTellItFirst(t *testing.T) {
	for _, w := range wrong() {
		for _, to := range []int{-1, 0, api.TypeInt, api.TypeText, api.TypeBool, 4} {
			if v, e := Cast(w.v, to); v != none || e != w.errno {
				t.Errorf("Cast(%.60v, %d) = %v, %d; want %d", w.v, to, v, e, w.errno)
			}
		}
		if k, e := Key(w.v); k != "" || e != w.errno {
			t.Errorf("Key(%.60v) = %q, %d; want %d", w.v, k, e, w.errno)
		}
		for _, v := range rising() {
			wantOrder(t, w.v, v, 0, w.errno)
			wantOrder(t, v, w.v, 0, w.errno)
		}
		wantOrder(t, w.v, number(api.MaxInt+1), 0, w.errno)
		wantOrder(t, w.v, api.Value{Kind: 4}, 0, w.errno)
	}
}

func wantOrder(t *testing.T, a, b api.Value, want int, errno api.Errno) {
	t.Helper()
	if n, e := Order(a, b); n != want || e != errno {
		t.Errorf("Order(%.60v, %.60v) = %d, %d; want %d, %d", a, b, n, e, want, errno)
	}
}

func TestB2Order(t *testing.T) {
	l := rising()
	for i, a := range l {
		for k, b := range l {
			wantOrder(t, a, b, cmp.Compare(i, k), api.OK)
		}
	}
}

func wantCast(t *testing.T, v api.Value, to int, want api.Value, errno api.Errno) {
	t.Helper()
	if got, e := Cast(v, to); got != want || e != errno {
		t.Errorf("Cast(%v, %d) = %v, %d; want %v, %d", v, to, got, e, want, errno)
	}
}

func TestB2Cast(t *testing.T) {
	for _, c := range []struct{ v, asInt, asText, asBool api.Value }{
		{none, none, none, none},
		{number(0), number(0), text("0"), truth(0)},
		{number(1), number(1), text("1"), truth(1)},
		{number(-1), number(-1), text("-1"), truth(1)},
		{number(70), number(70), text("70"), truth(1)},
		{number(api.MaxInt), number(api.MaxInt), text("999999999"), truth(1)},
		{number(-api.MaxInt), number(-api.MaxInt), text("-999999999"), truth(1)},
		{truth(0), number(0), text("false"), truth(0)},
		{truth(1), number(1), text("true"), truth(1)},
		{text("true"), none, text("true"), truth(1)},
		{text("false"), none, text("false"), truth(0)},
		{text("0"), number(0), text("0"), none},
		{text("1"), number(1), text("1"), none},
		{text("-1"), number(-1), text("-1"), none},
		{text("120"), number(120), text("120"), none},
		{text("999999999"), number(api.MaxInt), text("999999999"), none},
		{text("-999999999"), number(-api.MaxInt), text("-999999999"), none},
	} {
		wantCast(t, c.v, api.TypeInt, c.asInt, api.OK)
		wantCast(t, c.v, api.TypeText, c.asText, api.OK)
		wantCast(t, c.v, api.TypeBool, c.asBool, api.OK)
	}
}

func TestB2CastOfTextsThatAreNoOthers(t *testing.T) {
	for _, s := range []string{
		"", " ", "-", "--1", "-0", "00", "01", "-01", "007", "+1", "+0", "1-", "1 ", " 1", "1.0", "1e3", "0x1", "1_0", "a1", "1a",
		"1000000000", "-1000000000", "9223372036854775807", "9223372036854775808", "99999999999999999999", "18446744073709551617",
		"True", "TRUE", "true ", " true", "tru", "truefalse", "t", "False", "f", "yes", "null",
	} {
		wantCast(t, text(s), api.TypeInt, none, api.OK)
		wantCast(t, text(s), api.TypeText, text(s), api.OK)
		wantCast(t, text(s), api.TypeBool, none, api.OK)
	}
}

func TestB2CastToNoKindOfColumns(t *testing.T) {
	for _, v := range rising() {
		for _, to := range []int{math.MinInt, -1, 0, 4, math.MaxInt} {
			wantCast(t, v, to, none, api.ErrKind)
		}
	}
}

// What is written as a text is read from it again.
func TestB2CastThereAndBack(t *testing.T) {
	for _, v := range rising() {
		if v.Kind == api.TypeText {
			continue
		}
		s, e := Cast(v, api.TypeText)
		if e != api.OK || Check(s) != api.OK {
			t.Errorf("Cast(%v, text) = %v, %d", v, s, e)
		}
		wantCast(t, s, cmp.Or(v.Kind, api.TypeInt), v, api.OK)
	}
}

func TestB3Key(t *testing.T) {
	for _, c := range []struct {
		v    api.Value
		want string
	}{
		{none, "0"},
		{number(0), "11000000000"},
		{number(7), "11000000007"},
		{number(-7), "10999999993"},
		{number(api.MaxInt), "11999999999"},
		{number(-api.MaxInt), "10000000001"},
		{number(-api.MaxInt + 99), "10000000100"},
		{text(""), "2"},
		{text("a b"), "2a b"},
		{text("0"), "20"},
		{text("abcdefghijklmnopqrst"), "2abcdefghijklmnopqrst"},
		{truth(0), "30"},
		{truth(1), "31"},
	} {
		if k, e := Key(c.v); k != c.want || e != api.OK {
			t.Errorf("Key(%v) = %q, %d; want %q", c.v, k, e, c.want)
		}
	}
}

func TestB3KeysStandInOrderAsValuesDo(t *testing.T) {
	l := rising()
	for n := -2000; n <= 2000; n += 7 {
		l = append(l, number(n), number(n*400000), text(strconv.Itoa(n)))
	}
	keys := make([]string, len(l))
	for i, v := range l {
		keys[i], _ = Key(v)
	}
	for i, a := range l {
		for k, b := range l {
			wantOrder(t, a, b, strings.Compare(keys[i], keys[k]), api.OK)
		}
	}
}

// The same question has the same answer, whatever was asked between.
func TestP3AnswersHangOnWhatIsAskedAlone(t *testing.T) {
	wantCast(t, text("12"), api.TypeInt, number(12), api.OK)
	wantCast(t, text("x"), api.TypeInt, none, api.OK)
	wantCast(t, none, api.TypeText, none, api.OK)
	wantCast(t, text("12"), api.TypeInt, number(12), api.OK)
	wantCast(t, text("12"), api.TypeBool, none, api.OK)
}
