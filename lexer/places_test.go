package lexer_test

import (
	"testing"

	"ratchet/api"
	"ratchet/lexer"
)

// P5.4: example 5, and the edge cases.
func TestPlacesExamples(t *testing.T) {
	for text, want := range map[string][][2]int{
		"":           {{1, 1}},
		"a":          {{1, 1}, {1, 2}},
		"\n":         {{1, 1}, {2, 1}},
		"ab\nc":      {{1, 1}, {1, 2}, {1, 3}, {2, 1}, {2, 2}},
		"\n\na\n":    {{1, 1}, {2, 1}, {3, 1}, {3, 2}, {4, 1}},
		"\t\x80\r\n": {{1, 1}, {1, 2}, {1, 3}, {1, 4}, {2, 1}},
		"/*\n":       {{1, 1}, {1, 2}, {1, 3}, {2, 1}},
	} {
		for at, place := range want {
			if p, e := lexer.PlaceOf(text, at); p != place || e != api.OK {
				t.Errorf("PlaceOf(%q, %d): %v, %d, not %v", text, at, p, e, place)
			}
			if n, e := lexer.OffsetOf(text, place); n != at || e != api.OK {
				t.Errorf("OffsetOf(%q, %v): %d, %d, not %d", text, place, n, e, at)
			}
		}
		known := map[[2]int]bool{}
		for _, place := range want {
			known[place] = true
		}
		for line := -1; line < 7; line++ {
			for column := -1; column < 7; column++ {
				place := [2]int{line, column}
				if n, e := lexer.OffsetOf(text, place); !known[place] && (n != 0 || e != api.ErrMissing) {
					t.Errorf("OffsetOf(%q, %v): %d, %d", text, place, n, e)
				}
			}
		}
		for _, at := range append([]int{len(text) + 1, len(text) + 2}, extremes...) {
			if p, e := lexer.PlaceOf(text, at); p != [2]int{} || e != api.ErrRange {
				t.Errorf("PlaceOf(%q, %d): %v, %d", text, at, p, e)
			}
		}
		for _, n := range extremes {
			for _, place := range [][2]int{{1, n}, {n, 1}, {n, n}, {2, n}, {n, 0}} {
				if n, e := lexer.OffsetOf(text, place); n != 0 || e != api.ErrMissing {
					t.Errorf("OffsetOf(%q, %v): %d, %d", text, place, n, e)
				}
			}
		}
	}
}

// P5.4: the limit of texts.
func TestPlacesLimit(t *testing.T) {
	for _, c := range []struct {
		text string
		last [2]int
	}{
		{rep("a", api.MaxString), [2]int{1, api.MaxString + 1}},
		{rep("\n", api.MaxString), [2]int{api.MaxString + 1, 1}},
	} {
		if p, e := lexer.PlaceOf(c.text, api.MaxString); p != c.last || e != api.OK {
			t.Error(p, e)
		}
		if n, e := lexer.OffsetOf(c.text, c.last); n != api.MaxString || e != api.OK {
			t.Error(n, e)
		}
		for _, at := range []int{-1, 0, api.MaxString, api.MaxString + 2} {
			if p, e := lexer.PlaceOf(c.text+"a", at); p != [2]int{} || e != api.ErrLarge {
				t.Error(at, p, e)
			}
		}
		for _, place := range [][2]int{{}, {1, 1}, c.last, {-1, -1}} {
			if n, e := lexer.OffsetOf(c.text+"a", place); n != 0 || e != api.ErrLarge {
				t.Error(place, n, e)
			}
		}
	}
}

// P5.9
func TestPlacesReverse(t *testing.T) {
	check := func(text string) {
		last := [2]int{}
		line, column := 1, 1
		for at := 0; at <= len(text); at++ {
			p, e := lexer.PlaceOf(text, at)
			if p != [2]int{line, column} || e != api.OK {
				t.Fatalf("PlaceOf(%q, %d): %v, %d", text, at, p, e)
			}
			if p[0] < last[0] || p[0] == last[0] && p[1] <= last[1] {
				t.Fatalf("PlaceOf(%q, %d): %v after %v", text, at, p, last)
			}
			if n, e := lexer.OffsetOf(text, p); n != at || e != api.OK {
				t.Fatalf("OffsetOf(%q, %v): %d, %d, not %d", text, p, n, e, at)
			}
			last = p
			column++
			if at < len(text) && text[at] == '\n' {
				line, column = line+1, 1
			}
		}
	}
	eachText([]string{"a", "\n", "\x80"}, 7, check)
	eachArbitrary(5000, func(d *dice, text string) { check(text) })
}
