package lexer_test

import (
	"slices"
	"strings"
	"testing"

	"ratchet/api"
	"ratchet/lexer"
)

// P5.2: the words and signs, ascending, in new memory.
func TestLists(t *testing.T) {
	for _, x := range []struct {
		list func() []string
		want []string
	}{{lexer.Keywords, keywordList}, {lexer.Operators, operatorList}} {
		l := x.list()
		if !slices.Equal(l, x.want) || !slices.IsSorted(l) {
			t.Error(l)
		}
		for i := range l {
			l[i] = "changed"
		}
		if l := x.list(); !slices.Equal(l, x.want) {
			t.Error(l)
		}
	}
	if !lexer.IsKeyword("of") || lexer.IsKeyword("changed") {
		t.Error("the keywords changed")
	}
}

// P5.2
func TestIsKeyword(t *testing.T) {
	for _, keyword := range keywordList {
		if !lexer.IsKeyword(keyword) {
			t.Error(keyword)
		}
		for _, s := range []string{strings.ToUpper(keyword), keyword + "x", " " + keyword, keyword + " ", keyword[1:] + "_", strings.ToUpper(keyword[:1]) + keyword[1:]} {
			if lexer.IsKeyword(s) {
				t.Error(s)
			}
		}
	}
	for _, s := range append([]string{"", "none", "i", "re", "bit", "sext", "outputs", "a", "Bit"}, operatorList...) {
		if lexer.IsKeyword(s) {
			t.Error(s)
		}
	}
}

// P5.1: each word and each operator is one token of its kind.
func TestKindsOfWords(t *testing.T) {
	for kind, list := range map[int][]string{
		api.LexerKeyword:  keywordList,
		api.LexerOperator: operatorList,
		api.LexerName:     {"a", "z9", "ofx", "x_of", "regs", "rEg", "none"},
		api.LexerCapital:  {"A", "Z9", "Of", "REG", "Bit", "X_of"},
	} {
		for _, s := range list {
			if l, _, e := lexer.Tokens(s); !slices.Equal(l, []api.LexerToken{token(kind, 0, s)}) || e != api.OK {
				t.Errorf("%q: %v, %d, not %d", s, l, e, kind)
			}
		}
	}
}

// P5.2
func TestCheckToken(t *testing.T) {
	cases := []struct {
		token api.LexerToken
		want  api.Errno
	}{
		{token(api.LexerName, 0, "a"), api.OK},
		{token(api.LexerName, 1000000000000, "abcdefghijklmnop"), api.OK},
		{token(api.LexerCapital, 3, "Bit"), api.OK},
		{token(api.LexerKeyword, 3, "of"), api.OK},
		{token(api.LexerOperator, 3, "<<"), api.OK},
		{token(api.LexerOperator, 0, "\\"), api.OK},
		{number(0, "0", 0), api.OK},
		{number(0, "999999999", 999999999), api.OK},
		{literal(0, "4'b0101", 5, 4), api.OK},
		{literal(0, "4'd000005", 5, 4), api.OK},
		{token(-1, 0, "a"), api.ErrKind},
		{token(api.LexerKinds, 0, "a"), api.ErrKind},
		{token(api.LexerKinds, -1, ""), api.ErrKind},
		{token(api.LexerName, -1, "a"), api.ErrRange},
		{token(api.LexerName, -1, ""), api.ErrRange},
		{token(api.LexerName, 0, ""), api.ErrForm},
		{token(api.LexerName, 0, "of"), api.ErrForm},
		{token(api.LexerName, 0, "A"), api.ErrForm},
		{token(api.LexerCapital, 0, "a"), api.ErrForm},
		{token(api.LexerKeyword, 0, "a"), api.ErrForm},
		{token(api.LexerOperator, 0, "a"), api.ErrForm},
		{token(api.LexerOperator, 0, ">"), api.ErrForm},
		{token(api.LexerOperator, 0, "//"), api.ErrForm},
		{token(api.LexerOperator, 0, "==="), api.ErrForm},
		{token(api.LexerName, 0, "a "), api.ErrForm},
		{token(api.LexerName, 0, " a"), api.ErrForm},
		{token(api.LexerName, 0, "a b"), api.ErrForm},
		{token(api.LexerName, 0, "a//"), api.ErrForm},
		{token(api.LexerName, 0, "/**/a"), api.ErrForm},
		{token(api.LexerName, 0, "a\x80"), api.ErrForm},
		{token(api.LexerName, 0, "\x80"), api.ErrForm},
		{token(api.LexerName, 0, "/*"), api.ErrForm},
		{token(api.LexerName, 0, "abcdefghijklmnopq"), api.ErrForm},
		{token(api.LexerName, 0, rep("a", api.MaxString+1)), api.ErrForm},
		{token(api.LexerName, 0, "a"+rep(" ", api.MaxString)), api.ErrForm},
		{api.LexerToken{Kind: api.LexerName, Text: "a", Value: 1}, api.ErrForm},
		{api.LexerToken{Kind: api.LexerName, Text: "a", Width: 1}, api.ErrForm},
		{api.LexerToken{Kind: api.LexerOperator, Text: "+", Value: 1}, api.ErrForm},
		{number(0, "1", 2), api.ErrForm},
		{number(0, "1", -1), api.ErrForm},
		{number(0, "01", 1), api.ErrForm},
		{api.LexerToken{Kind: api.LexerNumber, Text: "1", Value: 1, Width: 1}, api.ErrForm},
		{literal(0, "1", 1, 0), api.ErrForm},
		{number(0, "4'h1", 1), api.ErrForm},
		{literal(0, "4'h1", 2, 4), api.ErrForm},
		{literal(0, "4'h1", 1, 5), api.ErrForm},
		{literal(0, "17'h1", 1, 17), api.ErrForm},
		{literal(0, "2'd4", 4, 2), api.ErrForm},
		{literal(0, "2'd4", 0, 0), api.ErrForm},
	}
	for _, c := range cases {
		if e := lexer.CheckToken(c.token); e != c.want {
			t.Errorf("CheckToken(%.60v): %d, not %d", c.token, e, c.want)
		}
		l := []api.LexerToken{token(api.LexerName, 7, "x"), c.token, token(-1, -1, "")}
		if s, e := lexer.Spaced(l[:2]); e != c.want || c.want != api.OK && s != "" || c.want == api.OK && s != "x "+c.token.Text {
			t.Errorf("Spaced(%.60v): %q, %d, not %d", l[:2], s, e, c.want)
		}
		if s, e := lexer.Spaced(l); s != "" || e == api.OK || c.want != api.OK && e != c.want {
			t.Errorf("Spaced(%.60v): %q, %d", l, s, e)
		}
	}
	for _, n := range extremes {
		if e := lexer.CheckToken(token(n, 0, "a")); e != api.ErrKind {
			t.Error(n, e)
		}
		if e := lexer.CheckToken(token(api.LexerName, n, "a")); n < 0 && e != api.ErrRange || n > 0 && e != api.OK {
			t.Error(n, e)
		}
		if e := lexer.CheckToken(number(0, "7", n)); e != api.ErrForm {
			t.Error(n, e)
		}
	}
}

// P5.2
func TestSpaced(t *testing.T) {
	for text, want := range map[string]string{
		"":                         "",
		" // a":                    "",
		"a":                        "a",
		"a<=b/*x/*y*/z*/+1":        "a <= b + 1",
		"reg x : Bit 4 = 4'b0101;": "reg x : Bit 4 = 4'b0101 ;",
		"_a/**/b\n\\":              "_ a b \\",
	} {
		l, _, _ := lexer.Tokens(text)
		before := slices.Clone(l)
		if s, e := lexer.Spaced(l); s != want || e != api.OK || !slices.Equal(l, before) {
			t.Errorf("Spaced(Tokens(%q)): %q, %d, not %q", text, s, e, want)
		}
	}
	if s, e := lexer.Spaced([]api.LexerToken{token(api.LexerName, 9, "b"), token(api.LexerName, 9, "a"), token(api.LexerName, 0, "b")}); s != "b a b" || e != api.OK {
		t.Errorf("tokens in no order: %q, %d", s, e)
	}
}

// P5.2: the limits, and their order among the errors.
func TestSpacedLimits(t *testing.T) {
	tokens := func(count int, x api.LexerToken, more ...api.LexerToken) []api.LexerToken {
		return append(slices.Repeat([]api.LexerToken{x}, count), more...)
	}
	long := literal(0, "16'b0000000000000001", 1, 16)
	wide := token(api.LexerName, 0, "abcdefghijklmno") // 16 bytes with a blank
	wrong := token(api.LexerName, 0, "A")
	cases := []struct {
		list   []api.LexerToken
		length int
		want   api.Errno
	}{
		{tokens(4000, token(api.LexerOperator, 0, "+")), 7999, api.OK},
		{tokens(4001, token(api.LexerOperator, 0, "+")), 0, api.ErrLarge},
		{tokens(4001, wrong), 0, api.ErrLarge},
		{tokens(4000, token(-1, 0, "")), 0, api.ErrKind},
		{tokens(3999, token(api.LexerOperator, 0, "+"), wrong), 0, api.ErrForm},
		{tokens(3750, wide), 3750*16 - 1, api.OK},
		{tokens(3749, wide, token(api.LexerName, 0, "abcdefghijklmnop")), 60000, api.OK},
		{tokens(3748, wide, token(api.LexerName, 0, "abcdefghijklmnop"), token(api.LexerName, 0, "abcdefghijklmnop")), 0, api.ErrLarge},
		{tokens(3751, wide), 0, api.ErrLarge},
		{tokens(4000, long), 0, api.ErrLarge},
		{tokens(3999, long, wrong), 0, api.ErrForm},
		{tokens(3999, long, token(api.LexerName, -1, "")), 0, api.ErrRange},
	}
	for i, c := range cases {
		if s, e := lexer.Spaced(c.list); len(s) != c.length || e != c.want {
			t.Errorf("case %d: %d bytes, %d, not %d, %d", i, len(s), e, c.length, c.want)
		}
	}
}

// P5.6
func TestBackToText(t *testing.T) {
	good := 0
	check := func(text string) {
		l, _, e := lexer.Tokens(text)
		if e != api.OK {
			return
		}
		good++
		for _, x := range l {
			if !strings.HasPrefix(text[x.At:], x.Text) {
				t.Fatalf("%q: %v", text, x)
			}
			if e := lexer.CheckToken(x); e != api.OK {
				t.Fatalf("%q: %v: %d", text, x, e)
			}
		}
		s, e := lexer.Spaced(l)
		if e != api.OK {
			t.Fatalf("%q: %d", text, e)
		}
		if back, _, e := lexer.Tokens(s); !slices.Equal(unplaced(back), unplaced(l)) || e != api.OK {
			t.Fatalf("%q: %v, %d, not %v", s, back, e, l)
		}
	}
	eachArbitrary(20000, func(d *dice, text string) { check(text) })
	eachText(operatorList, 2, check)
	eachText([]string{"1", "'", "b", "/", "*", "<", "-", ">"}, 5, check)
	if good < 10000 {
		t.Error(good)
	}
}
