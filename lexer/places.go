package lexer

import (
	"iter"
	"strings"

	"ratchet/api"
)

// PlaceOf returns the line and the column of an offset in a text.
func PlaceOf(text string, at int) ([2]int, api.Errno) {
	if e := errorOfOffset(text, at); e != api.OK {
		return [2]int{}, e
	}
	before := text[:at]
	// Without a line feed the last one counts as at -1: just before the text.
	return [2]int{1 + strings.Count(before, "\n"), at - strings.LastIndexByte(before, '\n')}, api.OK
}

// OffsetOf returns the offset with a line and a column in a text.
func OffsetOf(text string, place [2]int) (int, api.Errno) {
	if e := errorOfText(text); e != api.OK {
		return 0, e
	}
	line := 0
	for start, end := range lines(text) {
		line++
		if line == place[0] && place[1] >= 1 && place[1] <= end-start+1 {
			return start + place[1] - 1, api.OK
		}
	}
	return 0, api.ErrMissing
}

// lines yields the offsets at which lines begin, and of the line feeds (or of the end of the text) with which they end.
func lines(text string) iter.Seq2[int, int] {
	return func(yield func(start, end int) bool) {
		start := 0
		for end := range len(text) {
			if text[end] != '\n' {
				continue
			}
			if !yield(start, end) {
				return
			}
			start = end + 1
		}
		yield(start, len(text))
	}
}
