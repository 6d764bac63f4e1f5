package journal

import (
	"slices"
	"strings"

	"overhaul/api"
)

// The first sector is the head: how many sectors are in use, it among them. Behind it each text has sectors of its own: its length and its bytes, then bytes 0 till the last one is full.

// mark of a head, so that no disk without one is taken for ours; and how many bytes a number has.
const (
	mark       = "overhaul: texts that last\n"
	numberSize = 2
)

func head(used int) string { return filled(mark + number(used))[0] }

func laid(text string) []string { return filled(number(len(text)) + text) }

func number(n int) string { return string([]byte{byte(n >> 8), byte(n)}) }

func numberAt(s string, at int) int { return int(s[at])<<8 | int(s[at+1]) }

// filled: sectors with these bytes, and bytes 0 behind them.
func filled(s string) []string {
	many := sectorsFor(len(s))
	s += strings.Repeat("\x00", many*api.SectorSize-len(s))
	var l []string
	for i := range many {
		l = append(l, s[i*api.SectorSize:(i+1)*api.SectorSize])
	}
	return l
}

func sectorsFor(bytes int) int { return (bytes + api.SectorSize - 1) / api.SectorSize }

// read the texts that sectors keep, and how many sectors are in use; ErrState, if they do not lie as texts are laid.
func read(kept []string) ([]string, int, api.Errno) {
	used := numberAt(kept[0], len(mark))
	if used < 1 || used > len(kept) || kept[0] != head(used) {
		return nil, 0, api.ErrState
	}
	var texts []string
	for at := 1; at < used; {
		text, is := textOf(kept[at:used])
		if !is {
			return nil, 0, api.ErrState
		}
		texts = append(texts, text)
		at += sectorsFor(numberSize + len(text))
	}
	return texts, used, api.OK
}

// textOf the first of some sectors, and those behind it that the text needs; false, if there is none.
func textOf(l []string) (string, bool) {
	long := numberAt(l[0], 0)
	many := sectorsFor(numberSize + long)
	if long > api.MaxText || many > len(l) {
		return "", false
	}
	text := strings.Join(l[:many], "")[numberSize : numberSize+long]
	return text, slices.Equal(laid(text), l[:many])
}
