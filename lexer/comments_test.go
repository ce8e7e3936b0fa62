package lexer_test

import (
	"slices"
	"testing"

	"ratchet/api"
	"ratchet/lexer"
)

// P5.3: example 2, and the edge cases.
func TestCommentsExamples(t *testing.T) {
	cases := []struct {
		text     string
		want     []api.Range
		stripped string
	}{
		{"", nil, ""},
		{"a + b", nil, "a + b"},
		{"a<=b/*x/*y*/z*/+1", []api.Range{{Lo: 4, Hi: 14}}, "a<=b           +1"},
		{"a//b\nc/*d*/", []api.Range{{Lo: 1, Hi: 3}, {Lo: 6, Hi: 10}}, "a   \nc     "},
		{"a//b\nc/*d\n*/e", []api.Range{{Lo: 1, Hi: 3}, {Lo: 6, Hi: 11}}, "a   \nc   \n  e"},
		{"/**/", []api.Range{{Lo: 0, Hi: 3}}, "    "},
		{"//", []api.Range{{Lo: 0, Hi: 1}}, "  "},
		{"//\n//", []api.Range{{Lo: 0, Hi: 1}, {Lo: 3, Hi: 4}}, "  \n  "},
		{"////\n", []api.Range{{Lo: 0, Hi: 3}}, "    \n"},
		{"//\t/*\n", []api.Range{{Lo: 0, Hi: 4}}, "     \n"},
		{"\t/*\t*/\t", []api.Range{{Lo: 1, Hi: 5}}, "\t     \t"},
		{"/*//\n*/", []api.Range{{Lo: 0, Hi: 6}}, "    \n  "},
		{"/**//**/", []api.Range{{Lo: 0, Hi: 3}, {Lo: 4, Hi: 7}}, "        "},
		{"/**///a", []api.Range{{Lo: 0, Hi: 3}, {Lo: 4, Hi: 6}}, "       "},
		{"*/*a*/", []api.Range{{Lo: 1, Hi: 5}}, "*     "},
		{"/*\n\n*/", []api.Range{{Lo: 0, Hi: 5}}, "  \n\n  "},
		{"@ 1a 17'h0 > / /*@*/ abcdefghijklmnopq", []api.Range{{Lo: 15, Hi: 19}}, "@ 1a 17'h0 > /       abcdefghijklmnopq"},
		{"1'//", []api.Range{{Lo: 2, Hi: 3}}, "1'  "},
		{"\"/*\"*/", []api.Range{{Lo: 1, Hi: 5}}, "\"     "},
		{rep("(", api.MaxString), nil, rep("(", api.MaxString)},
		{rep("/*", api.MaxString/4) + rep("*/", api.MaxString/4), []api.Range{{Lo: 0, Hi: api.MaxString - 1}}, rep(" ", api.MaxString)},
	}
	for _, c := range cases {
		if l, at, e := lexer.CommentsIn(c.text); !slices.Equal(l, c.want) || at != 0 || e != api.OK {
			t.Errorf("CommentsIn(%.40q): %v, %d, %d, not %v", c.text, l, at, e, c.want)
		}
		if s, at, e := lexer.Stripped(c.text); s != c.stripped || at != 0 || e != api.OK {
			t.Errorf("Stripped(%.40q): %.40q, %d, %d, not %.40q", c.text, s, at, e, c.stripped)
		}
	}
	if l, _, e := lexer.CommentsIn(rep("/**/", api.MaxString/4)); len(l) != api.MaxString/4 || e != api.OK {
		t.Error(len(l), e)
	}
}

// P5.3
func TestCommentsErrors(t *testing.T) {
	cases := []struct {
		text string
		at   int
		want api.Errno
	}{
		{rep(" ", api.MaxString+1), 0, api.ErrLarge},
		{"a\x80" + rep(" ", api.MaxString), 0, api.ErrLarge},
		{"/*/", 0, api.ErrOpen},
		{"a /* b", 2, api.ErrOpen},
		{"a /* b /* c */", 2, api.ErrOpen},
		{"1a /* @", 3, api.ErrOpen},
		{"/**//*", 4, api.ErrOpen},
		{"a /* b \r", 7, api.ErrKind},
		{"/*\x00*/", 2, api.ErrKind},
		{"// \x80 /*", 3, api.ErrKind},
		{"//\n/*\x7f", 5, api.ErrKind},
		{"@ \x80", 2, api.ErrKind},
		{"/\x80", 1, api.ErrKind},
		{"4'\xff", 2, api.ErrKind},
		{"abcdefghijklmnopq\x80", 17, api.ErrKind},
		{"/* /* */ \x80", 9, api.ErrKind},
		{rep("a", api.MaxString-1) + "\x80", api.MaxString - 1, api.ErrKind},
	}
	for _, c := range cases {
		if l, at, e := lexer.CommentsIn(c.text); len(l) != 0 || at != c.at || e != c.want {
			t.Errorf("CommentsIn(%.40q): %v, %d, %d, not %d, %d", c.text, l, at, e, c.at, c.want)
		}
		if s, at, e := lexer.Stripped(c.text); s != "" || at != c.at || e != c.want {
			t.Errorf("Stripped(%.40q): %.40q, %d, %d, not %d, %d", c.text, s, at, e, c.at, c.want)
		}
	}
}

// P5.3: exactly the bytes of the comments become blanks, but for line feeds; P5.7: the text stripped has the same tokens.
func TestCommentsAreSpace(t *testing.T) {
	good := 0
	check := func(text string) {
		stripped, at, e := lexer.Stripped(text)
		r := readingOf(text, true)
		if at != r.at || e != r.e {
			t.Fatalf("Stripped(%q): %d, %d, not %d, %d", text, at, e, r.at, r.e)
		}
		if e != api.OK {
			return
		}
		want := []byte(text)
		for i := range want {
			for _, c := range r.comments {
				if i >= c.Lo && i <= c.Hi && want[i] != '\n' {
					want[i] = ' '
				}
			}
		}
		if stripped != string(want) {
			t.Fatalf("Stripped(%q): %q, not %q", text, stripped, want)
		}
		l, at, e := lexer.Tokens(text)
		same, sameAt, sameE := lexer.Tokens(stripped)
		if !slices.Equal(l, same) || at != sameAt || e != sameE {
			t.Fatalf("%q: %v, %d, %d, not %v, %d, %d", text, same, sameAt, sameE, l, at, e)
		}
		if again, _, e := lexer.CommentsIn(stripped); len(again) != 0 || e != api.OK {
			t.Fatalf("%q: %v, %d", stripped, again, e)
		}
		good++
	}
	eachText([]string{"/", "*", "\n", "a", "\t"}, 6, check)
	eachArbitrary(20000, func(d *dice, text string) { check(text) })
	if good < 10000 {
		t.Error(good)
	}
}

// P5.7: the tokens of two texts with a line feed between them.
func TestTwoTexts(t *testing.T) {
	good := 0
	before := "a // b"
	eachArbitrary(20000, func(d *dice, text string) {
		first, _, e := lexer.Tokens(before)
		second, _, f := lexer.Tokens(text)
		if e == api.OK && f == api.OK {
			good++
			want := append(slices.Clone(first), moved(second, len(before)+1)...)
			if l, at, e := lexer.Tokens(before + "\n" + text); !slices.Equal(l, want) || at != 0 || e != api.OK {
				t.Fatalf("%q, %q: %v, %d, %d, not %v", before, text, l, at, e, want)
			}
		}
		before = text
	})
	if good < 1000 {
		t.Error(good)
	}
}
