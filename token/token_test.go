package token

import (
	"math"
	"math/rand"
	"regexp"
	"slices"
	"strings"
	"testing"

	"overhaul/api"
)

func name(at int, s string) api.Token   { return api.Token{Kind: api.TokenName, At: at, Text: s} }
func number(at int, s string) api.Token { return api.Token{Kind: api.TokenNumber, At: at, Text: s} }
func text(at int, s string) api.Token   { return api.Token{Kind: api.TokenText, At: at, Text: s} }
func sign(at int, s string) api.Token   { return api.Token{Kind: api.TokenSign, At: at, Text: s} }

func wantScan(t *testing.T, s string, want []api.Token, wantAt int, wantErrno api.Errno) {
	t.Helper()
	l, at, e := Scan(s)
	if !slices.Equal(l, want) || at != wantAt || e != wantErrno {
		t.Errorf("Scan(%.60q) = %v, %d, %d; want %v, %d, %d", s, l, at, e, want, wantAt, wantErrno)
	}
}

func wantJoin(t *testing.T, l []api.Token, want string, wantErrno api.Errno) {
	t.Helper()
	s, e := Join(l)
	if s != want || e != wantErrno {
		t.Errorf("Join(%.200v) = %.60q, %d; want %.60q, %d", l, s, e, want, wantErrno)
	}
}

func TestA1Tokens(t *testing.T) {
	for _, c := range []struct {
		s    string
		want []api.Token
	}{
		{"", nil},
		{" \t\n \n\t ", nil},
		{"a", []api.Token{name(0, "a")}},
		{"\ta1b2\n z9 ", []api.Token{name(1, "a1b2"), name(7, "z9")}},
		{"12ab 3", []api.Token{number(0, "12"), name(2, "ab"), number(5, "3")}},
		{"0", []api.Token{number(0, "0")}},
		{"0 0a0", []api.Token{number(0, "0"), number(2, "0"), name(3, "a0")}},
		{"10", []api.Token{number(0, "10")}},
		{"-7", []api.Token{sign(0, "-"), number(1, "7")}},
		{"''", []api.Token{text(0, "''")}},
		{"' '", []api.Token{text(0, "' '")}},
		{"'a''b'", []api.Token{text(0, "'a'"), text(3, "'b'")}},
		{"a'B ~!|09'c", []api.Token{name(0, "a"), text(1, "'B ~!|09'"), name(10, "c")}},
		{"||", []api.Token{sign(0, "||")}},
		{"||||", []api.Token{sign(0, "||"), sign(2, "||")}},
		{"(),;*=<+-", []api.Token{sign(0, "("), sign(1, ")"), sign(2, ","), sign(3, ";"), sign(4, "*"), sign(5, "="), sign(6, "<"), sign(7, "+"), sign(8, "-")}},
		{"a||'b'", []api.Token{name(0, "a"), sign(1, "||"), text(3, "'b'")}},
	} {
		wantScan(t, c.s, c.want, 0, api.OK)
	}
}

func TestA1WrongTokens(t *testing.T) {
	for _, c := range []struct {
		s  string
		at int
	}{
		{"A", 0},
		{"aB", 1},
		{"a_b", 1},
		{"a\rb", 1},
		{"a\x00", 1},
		{"a \xc3\xa4", 2},
		{"a > b", 2},
		{"|", 0},
		{"a | b", 2},
		{"| |", 0},
		{"|||", 2},
		{"'", 0},
		{"'''", 2},
		{"a 'b", 2},
		{"a 'b\nc'", 2},
		{"a 'b\x7fc'", 2},
		{"a 'b\x1fc'", 2},
		{"a 'b\xffc'", 2},
		{"01", 0},
		{"00", 0},
		{"a 0123b", 2},
		{"a 'b' \"c\"", 6},
		{"ok 01 !", 3},
		{"ok ! 01", 3},
	} {
		wantScan(t, c.s, nil, c.at, api.ErrForm)
	}
}

func TestA1Limits(t *testing.T) {
	fits := strings.Repeat("a", api.MaxName)
	wantScan(t, fits, []api.Token{name(0, fits)}, 0, api.OK)
	wantScan(t, " "+fits+"9", nil, 1, api.ErrMany)
	wantScan(t, fits+" 9", []api.Token{name(0, fits), number(api.MaxName+1, "9")}, 0, api.OK)

	digits := strings.Repeat("9", api.MaxDigits)
	wantScan(t, digits, []api.Token{number(0, digits)}, 0, api.OK)
	wantScan(t, "  "+digits+"9", nil, 2, api.ErrMany)
	wantScan(t, digits+"a", []api.Token{number(0, digits), name(api.MaxDigits, "a")}, 0, api.OK)

	quoted := "'" + strings.Repeat("\"", api.MaxQuoted) + "'"
	wantScan(t, quoted, []api.Token{text(0, quoted)}, 0, api.OK)
	wantScan(t, "a"+quoted[:1]+"b"+quoted[1:], nil, 1, api.ErrMany)

	blanks := strings.Repeat(" ", api.MaxText-1)
	wantScan(t, blanks+"a", []api.Token{name(api.MaxText-1, "a")}, 0, api.OK)
	wantScan(t, blanks+"!", nil, api.MaxText-1, api.ErrForm)
	wantScan(t, blanks+" a", nil, 0, api.ErrMany)
	wantScan(t, blanks+"  ", nil, 0, api.ErrMany)
}

// What is named first tells: of the whole text, then token by token, and of one token in the promise's order.
func TestA1WhichErrorTells(t *testing.T) {
	wantScan(t, "!"+strings.Repeat("a", api.MaxText), nil, 0, api.ErrMany)
	wantScan(t, "a !"+strings.Repeat(" ", api.MaxText), nil, 0, api.ErrMany)
	wantScan(t, "0123456789", nil, 0, api.ErrMany)
	wantScan(t, "012345678", nil, 0, api.ErrForm)
	wantScan(t, "a 'abcdefghijklmnopqrstuvwxyz", nil, 2, api.ErrForm)
	wantScan(t, "a 'abcdefghijklmnopqrstuvwxyz\t'", nil, 2, api.ErrForm)
	wantScan(t, "a abcdefghijklm !", nil, 2, api.ErrMany)
	wantScan(t, "a ! abcdefghijklm", nil, 2, api.ErrForm)
	wantScan(t, "a 1234567890 01", nil, 2, api.ErrMany)
	wantScan(t, "a 01 1234567890", nil, 2, api.ErrForm)
}

// scanByPattern: the tokens of a text told by patterns alone, to be held against Scan.
func scanByPattern(s string) ([]api.Token, int, api.Errno) {
	if len(s) > api.MaxText {
		return nil, 0, api.ErrMany
	}
	var l []api.Token
	for at := 0; at < len(s); {
		m := tokenPattern.FindStringSubmatch(s[at:])
		if m == nil {
			return nil, at, api.ErrForm
		}
		kind := 0
		for k := api.TokenName; k <= api.TokenSign; k++ {
			if m[k] != "" {
				kind = k
			}
		}
		switch {
		case kind == api.TokenName && len(m[0]) > 12, kind == api.TokenNumber && len(m[0]) > 9, kind == api.TokenText && len(m[0]) > 22:
			return nil, at, api.ErrMany
		case kind == api.TokenNumber && len(m[0]) > 1 && m[0][0] == '0':
			return nil, at, api.ErrForm
		case kind != 0:
			l = append(l, api.Token{Kind: kind, At: at, Text: m[0]})
		}
		at += len(m[0])
	}
	return l, 0, api.OK
}

var tokenPattern = regexp.MustCompile(`^(?:([a-z][a-z0-9]*)|([0-9]+)|('[ -&(-~]*')|(\|\||[(),;*=<+-])|[ \t\n]+)`)

func TestA1AsPatternsTell(t *testing.T) {
	var texts []string
	for c := range 256 {
		b := string([]byte{byte(c)})
		texts = append(texts, b, "a"+b, b+"a", "1"+b, b+"1", "|"+b, "'"+b+"'", "'"+b, b+"'", b+b, " "+b+" ")
	}
	pieces := []string{"a", "abcdef", "z9", "0", "01", "7", "12345", "'", "'", "''", "'a b'", "|", "||", "(", ")", ",", ";", "*", "=", "<", "+", "-", " ", " ", "\t", "\n", "A", "!", "\xff", "\x00"}
	r := rand.New(rand.NewSource(1))
	for range 30000 {
		s := ""
		for range r.Intn(12) {
			// Mostly right pieces, so that long texts without a fault are among them.
			s += pieces[r.Intn(len(pieces)-4*min(1, r.Intn(8)))]
		}
		texts = append(texts, s)
	}
	for _, s := range texts {
		want, at, e := scanByPattern(s)
		wantScan(t, s, want, at, e)
	}
}

func TestA2Join(t *testing.T) {
	wantJoin(t, nil, "", api.OK)
	wantJoin(t, []api.Token{}, "", api.OK)
	wantJoin(t, []api.Token{name(0, "a")}, "a", api.OK)
	wantJoin(t, []api.Token{name(-5, "a"), sign(math.MaxInt, "||"), text(0, "'b  c'"), number(0, "0"), sign(7, "-")}, "a || 'b  c' 0 -", api.OK)
	wantJoin(t, []api.Token{name(0, "abcdefghijkl"), number(0, "999999999"), text(0, "'abcdefghijklmnopqrst'")}, "abcdefghijkl 999999999 'abcdefghijklmnopqrst'", api.OK)
}

func TestA2WrongTokens(t *testing.T) {
	for _, wrong := range []api.Token{
		{},
		{Kind: api.TokenName},
		{Text: "a"},
		{Kind: 5, Text: "a"},
		{Kind: -1, Text: "a"},
		name(0, "1"), name(0, "''"), name(0, "("), name(0, "A"),
		number(0, "a"), number(0, "-1"), number(0, "1 "), number(0, "01"), number(0, "1234567890"),
		text(0, "a"), text(0, "'a"), text(0, "'a'b'"), text(0, "'a' 'b'"), text(0, "'a\nb'"), text(0, "'abcdefghijklmnopqrstu'"),
		sign(0, "|"), sign(0, "(("), sign(0, ">"), sign(0, "a"), sign(0, " "),
		name(0, " a"), name(0, "a "), name(0, "a\n"), name(0, "a b"), name(0, "a1 1"), name(0, "abcdefghijklm"),
		name(0, strings.Repeat("a", api.MaxText+1)),
		name(0, "a"+strings.Repeat(" ", api.MaxText)),
	} {
		wantJoin(t, []api.Token{wrong}, "", api.ErrForm)
		wantJoin(t, []api.Token{name(0, "a"), wrong, sign(0, ";")}, "", api.ErrForm)
	}
}

func TestA2Limit(t *testing.T) {
	l := slices.Repeat([]api.Token{name(0, "a")}, api.MaxText/2)
	most := strings.TrimSuffix(strings.Repeat("a ", api.MaxText/2), " ")
	wantJoin(t, l, most, api.OK)
	l[0].Text = "ab"
	wantJoin(t, l, "ab"+most[1:], api.OK)
	l[0].Text = "abc"
	wantJoin(t, l, "", api.ErrMany)
	l = append(l, name(0, "A"))
	wantJoin(t, l, "", api.ErrForm)
}

// drawn tokens, right ones, of all kinds and lengths.
func drawn(r *rand.Rand, many int) []api.Token {
	of := func(signs string, n int) string {
		b := make([]byte, n)
		for i := range b {
			b[i] = signs[r.Intn(len(signs))]
		}
		return string(b)
	}
	letters, digits, printable := "abcdefghijklmnopqrstuvwxyz", "0123456789", ""
	for c := byte(32); c <= 126; c++ {
		if c != '\'' {
			printable += string(rune(c))
		}
	}
	signs := []string{"||", "(", ")", ",", ";", "*", "=", "<", "+", "-"}
	var l []api.Token
	for range many {
		at := r.Intn(100) - 50
		switch r.Intn(5) {
		case 0:
			l = append(l, name(at, of(letters, 1)+of(letters+digits, r.Intn(api.MaxName))))
		case 1:
			l = append(l, number(at, of(digits[1:], 1)+of(digits, r.Intn(api.MaxDigits))))
		case 2:
			l = append(l, number(at, "0"))
		case 3:
			l = append(l, text(at, "'"+of(printable, r.Intn(api.MaxQuoted+1))+"'"))
		default:
			l = append(l, sign(at, signs[r.Intn(len(signs))]))
		}
	}
	return l
}

func TestA3JoinedIsScannedAsItWas(t *testing.T) {
	r := rand.New(rand.NewSource(2))
	joined := 0
	for range 3000 {
		l := drawn(r, r.Intn(250))
		s, e := Join(l)
		if e == api.ErrMany {
			continue
		}
		joined++
		again, at, f := Scan(s)
		if e != api.OK || f != api.OK || at != 0 || len(again) != len(l) {
			t.Fatalf("%v is joined to %q, %d, and scanned as %v, %d, %d", l, s, e, again, at, f)
		}
		for i, a := range again {
			if a.Kind != l[i].Kind || a.Text != l[i].Text || !strings.HasPrefix(s[a.At:], a.Text) {
				t.Fatalf("token %d of %q: %v, and was %v", i, s, a, l[i])
			}
		}
	}
	if joined < 1000 {
		t.Errorf("only %d lists could be joined", joined)
	}
}

func TestP2WhatIsHandedInIsOnlyRead(t *testing.T) {
	whole := []api.Token{name(3, "a"), sign(9, "||"), name(4, "b"), number(1, "1")}
	before := slices.Clone(whole)
	wantJoin(t, whole[:2], "a ||", api.OK)
	if !slices.Equal(whole, before) {
		t.Errorf("%v was %v", whole, before)
	}
}

func TestP2AnswersAreNew(t *testing.T) {
	first, _, _ := Scan("a b c")
	second, _, _ := Scan("a b c")
	clear(first[:cap(first)])
	if !slices.Equal(second, []api.Token{name(0, "a"), name(2, "b"), name(4, "c")}) {
		t.Errorf("another answer was changed: %v", second)
	}
	wantScan(t, "a b c", second, 0, api.OK)
}
