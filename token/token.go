// Package token: tokens: see doc/01-token.md.
package token

import (
	"strings"

	"overhaul/api"
)

// Scan a text.
func Scan(s string) ([]api.Token, int, api.Errno) {
	if len(s) > api.MaxText {
		return nil, 0, api.ErrMany
	}
	var l []api.Token
	for at := span(s, 0, parts); at < len(s); {
		t := next(s, at)
		if e := fault(t); e != api.OK {
			return nil, at, e
		}
		l = append(l, t)
		at = span(s, at+len(t.Text), parts)
	}
	return l, 0, api.OK
}

// Join tokens.
func Join(l []api.Token) (string, api.Errno) {
	var b strings.Builder
	for i, t := range l {
		if !alone(t) {
			return "", api.ErrForm
		}
		if i > 0 {
			b.WriteByte(' ')
		}
		b.WriteString(t.Text)
	}
	// Only here, for a wrong token tells ahead of too many of them, wherever it stands.
	if b.Len() > api.MaxText {
		return "", api.ErrMany
	}
	return b.String(), api.OK
}

// alone: is a token the only one of its text? Where it begins is of the text that it came from, and does not count.
func alone(t api.Token) bool {
	l, _, e := Scan(t.Text)
	return e == api.OK && len(l) == 1 && l[0] == api.Token{Kind: t.Kind, Text: t.Text}
}

// next token, which begins at a place, however long it is; of kind 0, if none begins there.
func next(s string, at int) api.Token {
	kind, end := 0, at
	switch c := s[at]; {
	case letter(c):
		kind = api.TokenName
		end = span(s, at, func(c byte) bool { return letter(c) || digit(c) })
	case digit(c):
		kind = api.TokenNumber
		end = span(s, at, digit)
	case c == '\'':
		end = span(s, at+1, func(c byte) bool { return c >= 32 && c <= 126 && c != '\'' })
		if end < len(s) && s[end] == '\'' {
			kind = api.TokenText
			end++
		}
	case strings.HasPrefix(s[at:], "||"):
		kind, end = api.TokenSign, at+2
	case strings.IndexByte("(),;*=<+-", c) >= 0:
		kind, end = api.TokenSign, at+1
	}
	if kind == 0 {
		return api.Token{}
	}
	return api.Token{Kind: kind, At: at, Text: s[at:end]}
}

// fault of what next answered, in the promise's order: a number that is too long and has a nought ahead is too long.
func fault(t api.Token) api.Errno {
	if t.Kind == 0 {
		return api.ErrForm
	}
	if len(t.Text) > longest(t.Kind) {
		return api.ErrMany
	}
	if t.Kind == api.TokenNumber && len(t.Text) > 1 && t.Text[0] == '0' {
		return api.ErrForm
	}
	return api.OK
}

// longest text that a token of a kind may have.
func longest(kind int) int {
	switch kind {
	case api.TokenName:
		return api.MaxName
	case api.TokenNumber:
		return api.MaxDigits
	case api.TokenText:
		return api.MaxQuoted + len("''")
	}
	return len("||")
}

// span: where the bytes end, from a place on, of which it goes on.
func span(s string, at int, goesOn func(byte) bool) int {
	for at < len(s) && goesOn(s[at]) {
		at++
	}
	return at
}

func parts(c byte) bool { return c == ' ' || c == '\t' || c == '\n' }

func letter(c byte) bool { return c >= 'a' && c <= 'z' }

func digit(c byte) bool { return c >= '0' && c <= '9' }
