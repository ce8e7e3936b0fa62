package lexer_test

import (
	"slices"
	"strings"
	"testing"

	"ratchet/api"
	"ratchet/lexer"
)

// P5.1: examples 1 and 2, and the edge cases.
func TestTokensExamples(t *testing.T) {
	cases := []struct {
		text string
		want []api.LexerToken
	}{
		{"", nil},
		{" \t\n ", nil},
		{"// a", nil},
		{"/**/", nil},
		{"/* a /* b */ c */ // d /* e", nil},
		{"reg x : Bit 4 = 4'b0101;", []api.LexerToken{
			token(api.LexerKeyword, 0, "reg"), token(api.LexerName, 4, "x"), token(api.LexerOperator, 6, ":"), token(api.LexerCapital, 8, "Bit"),
			number(12, "4", 4), token(api.LexerOperator, 14, "="), literal(16, "4'b0101", 5, 4), token(api.LexerOperator, 23, ";"),
		}},
		{"a<=b/*x/*y*/z*/+1", []api.LexerToken{
			token(api.LexerName, 0, "a"), token(api.LexerOperator, 1, "<="), token(api.LexerName, 3, "b"), token(api.LexerOperator, 15, "+"), number(16, "1", 1),
		}},
		{"a/*b*/c", []api.LexerToken{token(api.LexerName, 0, "a"), token(api.LexerName, 6, "c")}},
		{"a//b", []api.LexerToken{token(api.LexerName, 0, "a")}},
		{"a//b\nc", []api.LexerToken{token(api.LexerName, 0, "a"), token(api.LexerName, 5, "c")}},
		{"//*\na", []api.LexerToken{token(api.LexerName, 4, "a")}},
		{"/*//**/*/a", []api.LexerToken{token(api.LexerName, 9, "a")}},
		{"/* // */a", []api.LexerToken{token(api.LexerName, 8, "a")}},
		{"/***/a", []api.LexerToken{token(api.LexerName, 5, "a")}},
		{"/**/*/**/", []api.LexerToken{token(api.LexerOperator, 4, "*")}},
		{"*/*b*/", []api.LexerToken{token(api.LexerOperator, 0, "*")}},
		{"<=", []api.LexerToken{token(api.LexerOperator, 0, "<=")}},
		{"< =", []api.LexerToken{token(api.LexerOperator, 0, "<"), token(api.LexerOperator, 2, "=")}},
		{"</**/=", []api.LexerToken{token(api.LexerOperator, 0, "<"), token(api.LexerOperator, 5, "=")}},
		{"===", []api.LexerToken{token(api.LexerOperator, 0, "=="), token(api.LexerOperator, 2, "=")}},
		{"...", []api.LexerToken{token(api.LexerOperator, 0, ".."), token(api.LexerOperator, 2, ".")}},
		{"<<=", []api.LexerToken{token(api.LexerOperator, 0, "<<"), token(api.LexerOperator, 2, "=")}},
		{"+++", []api.LexerToken{token(api.LexerOperator, 0, "++"), token(api.LexerOperator, 2, "+")}},
		{"!==", []api.LexerToken{token(api.LexerOperator, 0, "!="), token(api.LexerOperator, 2, "=")}},
		{"-1", []api.LexerToken{token(api.LexerOperator, 0, "-"), number(1, "1", 1)}},
		{"\\x->x", []api.LexerToken{token(api.LexerOperator, 0, "\\"), token(api.LexerName, 1, "x"), token(api.LexerOperator, 2, "->"), token(api.LexerName, 4, "x")}},
		{"_", []api.LexerToken{token(api.LexerOperator, 0, "_")}},
		{"__", []api.LexerToken{token(api.LexerOperator, 0, "_"), token(api.LexerOperator, 1, "_")}},
		{"_a", []api.LexerToken{token(api.LexerOperator, 0, "_"), token(api.LexerName, 1, "a")}},
		{"_1", []api.LexerToken{token(api.LexerOperator, 0, "_"), number(1, "1", 1)}},
		{"a_", []api.LexerToken{token(api.LexerName, 0, "a_")}},
		{"x[0:4].f", []api.LexerToken{
			token(api.LexerName, 0, "x"), token(api.LexerOperator, 1, "["), number(2, "0", 0), token(api.LexerOperator, 3, ":"),
			number(4, "4", 4), token(api.LexerOperator, 5, "]"), token(api.LexerOperator, 6, "."), token(api.LexerName, 7, "f"),
		}},
		{"abcdefghijklmnop", []api.LexerToken{token(api.LexerName, 0, "abcdefghijklmnop")}},
		{"Abcdefgh_jklmn09", []api.LexerToken{token(api.LexerCapital, 0, "Abcdefgh_jklmn09")}},
		{"of Of OF of_ of1 o f", []api.LexerToken{
			token(api.LexerKeyword, 0, "of"), token(api.LexerCapital, 3, "Of"), token(api.LexerCapital, 6, "OF"), token(api.LexerName, 9, "of_"),
			token(api.LexerName, 13, "of1"), token(api.LexerName, 17, "o"), token(api.LexerName, 19, "f"),
		}},
		{"0 10 999999999", []api.LexerToken{number(0, "0", 0), number(2, "10", 10), number(5, "999999999", 999999999)}},
		{"1'b1 16'hffff 16'd65535 4'd0000000000000015 8'h0a", []api.LexerToken{
			literal(0, "1'b1", 1, 1), literal(5, "16'hffff", 65535, 16), literal(14, "16'd65535", 65535, 16),
			literal(24, "4'd0000000000000015", 15, 4), literal(44, "8'h0a", 10, 8),
		}},
	}
	for _, c := range cases {
		if l, at, e := lexer.Tokens(c.text); !slices.Equal(l, c.want) || at != 0 || e != api.OK {
			t.Errorf("Tokens(%q): %v, %d, %d, not %v", c.text, l, at, e, c.want)
		}
	}
}

// P5.1: what the errors are, and where.
func TestTokensErrors(t *testing.T) {
	cases := []struct {
		text string
		at   int
		want api.Errno
	}{
		{"ab @", 3, api.ErrSyntax},
		{"a /* b", 2, api.ErrOpen},
		{"abcdefghijklmnopq", 0, api.ErrName},
		{"a Bbcdefghijklmnop_ @", 2, api.ErrName},
		{rep("a", api.MaxString), 0, api.ErrName},
		{"/*/", 0, api.ErrOpen},
		{"/*", 0, api.ErrOpen},
		{"/* /* */", 0, api.ErrOpen},
		{"/**/ /* /* */ ", 5, api.ErrOpen},
		{"/*/*/*/", 0, api.ErrOpen},
		{"// /*\n /* // */ /*", 16, api.ErrOpen},
		{rep("/*", api.MaxString/2), 0, api.ErrOpen},
		{"/* a /* \x80", 8, api.ErrKind},
		{"/* \x00 */", 3, api.ErrKind},
		{"/*\x80", 2, api.ErrKind},
		{"/* */ \r", 6, api.ErrKind},
		{"/* @ */ $ \x80", 8, api.ErrSyntax},
		{"// ab\x7f", 5, api.ErrKind},
		{"// ab\r\n", 5, api.ErrKind},
		{"//\n\x80", 3, api.ErrKind},
		{"\v", 0, api.ErrKind},
		{"a\u00e9", 1, api.ErrKind},
		{"a\x1fb", 1, api.ErrKind},
		{"\ufeffa", 0, api.ErrKind},
		{"a b\xff", 3, api.ErrKind},
		{"12\x80", 2, api.ErrKind},
		{"00", 0, api.ErrSyntax},
		{"01", 0, api.ErrSyntax},
		{"1a", 0, api.ErrSyntax},
		{"a 1_0", 2, api.ErrSyntax},
		{"0_", 0, api.ErrSyntax},
		{"1234567890", 0, api.ErrSyntax},
		{"0000000000", 0, api.ErrSyntax},
		{rep("9", api.MaxString), 0, api.ErrSyntax},
		{"17'h0", 0, api.ErrRange},
		{" 0'h0", 1, api.ErrRange},
		{"2'd4", 0, api.ErrRange},
		{"2'd3 2'd4", 5, api.ErrRange},
		{"999999999'b0", 0, api.ErrRange},
		{"1000000000'b0", 0, api.ErrSyntax},
		{"08'h0", 0, api.ErrSyntax},
		{"00'h0", 0, api.ErrSyntax},
		{"8'", 0, api.ErrSyntax},
		{"8'h", 0, api.ErrSyntax},
		{"8'h0'", 0, api.ErrSyntax},
		{"8'h0_0", 0, api.ErrSyntax},
		{"17'hg", 0, api.ErrSyntax},
		{"8'x0", 0, api.ErrSyntax},
		{"8 'h0", 2, api.ErrSyntax},
		{"8' h0", 0, api.ErrSyntax},
		{"a'b1", 1, api.ErrSyntax},
		{"a/", 1, api.ErrSyntax},
		{"/", 0, api.ErrSyntax},
		{"/ *a*/", 0, api.ErrSyntax},
		{">", 0, api.ErrSyntax},
		{">=", 0, api.ErrSyntax},
		{">>>", 2, api.ErrSyntax},
		{"> >", 0, api.ErrSyntax},
		{"->>", 2, api.ErrSyntax},
		{"a # \x80 /*", 2, api.ErrSyntax},
		{"1a abcdefghijklmnopq \x80", 0, api.ErrSyntax},
		{"\x80 1a", 0, api.ErrKind},
	}
	for _, c := range cases {
		if l, at, e := lexer.Tokens(c.text); len(l) != 0 || at != c.at || e != c.want {
			t.Errorf("Tokens(%.40q): %v, %d, %d, not %d, %d", c.text, l, at, e, c.at, c.want)
		}
	}
}

// P5.1: each byte alone, and after the beginning of each kind of token.
func TestTokensEachByte(t *testing.T) {
	for c := range 256 {
		for _, before := range []string{"", "a", "A1", "0", "4", "4'h", "4'b1", "<", ">", "-", "/", "//", "/*", "_"} {
			for _, after := range []string{"", " ", "a", "0", "=", "/", "*/"} {
				compare(t, before+string([]byte{byte(c)})+after)
			}
		}
	}
}

// P5.1, P5.3: all short texts of some parts, and arbitrary texts, against the reference.
func TestAgainstReference(t *testing.T) {
	eachText([]string{"a", "0", "/", "*", "\n", " ", "\x80", ">", "_"}, 5, func(text string) { compare(t, text) })
	eachText([]string{"/", "*", "\n", "a"}, 7, func(text string) { compare(t, text) })
	eachText([]string{"0", "1", "8", "'", "h", "f", "d", "b"}, 5, func(text string) { compare(t, text) })
	eachText(strings.Split("!&+-.<=>|*/", ""), 3, func(text string) { compare(t, text) })
	eachArbitrary(20000, func(d *dice, text string) { compare(t, text) })
}

// compare holds the tokens and the comments of a text against the reference.
func compare(t *testing.T, text string) {
	t.Helper()
	want := readingOf(text, false).whole()
	if l, at, e := lexer.Tokens(text); !slices.Equal(l, want.tokens) || at != want.at || e != want.e {
		t.Fatalf("Tokens(%q): %v, %d, %d, not %v, %d, %d", text, l, at, e, want.tokens, want.at, want.e)
	}
	want = readingOf(text, true).whole()
	if l, at, e := lexer.CommentsIn(text); !slices.Equal(l, want.comments) || at != want.at || e != want.e {
		t.Fatalf("CommentsIn(%q): %v, %d, %d, not %v, %d, %d", text, l, at, e, want.comments, want.at, want.e)
	}
}

// P5.1: the limits of texts and of their tokens.
func TestTokensLimits(t *testing.T) {
	cases := []struct {
		text  string
		count int
		at    int
		want  api.Errno
	}{
		{rep(" ", api.MaxString), 0, 0, api.OK},
		{rep(" ", api.MaxString+1), 0, 0, api.ErrLarge},
		{"//" + rep("a", api.MaxString-2), 0, 0, api.OK},
		{"//" + rep("a", api.MaxString-1), 0, 0, api.ErrLarge},
		{"\x80" + rep(" ", api.MaxString), 0, 0, api.ErrLarge},
		{rep(" ", api.MaxString-1) + "a", 1, 0, api.OK},
		{rep("/*", api.MaxString/4) + rep("*/", api.MaxString/4), 0, 0, api.OK},
		{rep("a ", 4000), 4000, 0, api.OK},
		{rep("a ", 4000) + "// a", 4000, 0, api.OK},
		{rep("abcdefghijklmn ", 4000), 4000, 0, api.OK},
		{rep("a ", 4001), 0, 8000, api.ErrLarge},
		{rep("a ", 4000) + "  /**/ bc d", 0, 8007, api.ErrLarge},
		{rep("(", api.MaxString), 0, 4000, api.ErrLarge},
		{rep("(", api.MaxString+1), 0, 0, api.ErrLarge},
		{rep("a ", 4001) + "@", 0, 8002, api.ErrSyntax},
		{rep("a ", 4000) + "@", 0, 8000, api.ErrSyntax},
		{rep("a ", 4002) + "/*", 0, 8004, api.ErrOpen},
		{rep("(", api.MaxString-1) + "\x80", 0, api.MaxString - 1, api.ErrKind},
	}
	for _, c := range cases {
		if l, at, e := lexer.Tokens(c.text); len(l) != c.count || at != c.at || e != c.want {
			t.Errorf("Tokens(%.20q, %d bytes): %d, %d, %d, not %d, %d, %d", c.text, len(c.text), len(l), at, e, c.count, c.at, c.want)
		}
	}
}

// P5.1
func TestNextTokenExamples(t *testing.T) {
	cases := []struct {
		text string
		at   int
		want api.LexerToken
	}{
		{"ab cd", 0, token(api.LexerName, 0, "ab")},
		{"ab cd", 1, token(api.LexerName, 1, "b")},
		{"ab cd", 2, token(api.LexerName, 3, "cd")},
		{"Ab", 1, token(api.LexerName, 1, "b")},
		{"xof", 1, token(api.LexerKeyword, 1, "of")},
		{"12'h0", 1, literal(1, "2'h0", 0, 2)},
		{"4'h0", 2, token(api.LexerName, 2, "h0")},
		{"<==", 1, token(api.LexerOperator, 1, "==")},
		{"a /* b /* c */ d */ e", 1, token(api.LexerName, 20, "e")},
		{"a /* b */ e", 4, token(api.LexerName, 5, "b")},
		{"a /* b */ e", 3, token(api.LexerOperator, 3, "*")},
		{"a // b\n c", 1, token(api.LexerName, 8, "c")},
		{"a // b\n c", 4, token(api.LexerName, 5, "b")},
		{"\x80 @ a \x80", 4, token(api.LexerName, 4, "a")},
		{"a \x80", 0, token(api.LexerName, 0, "a")},
		{"a/*", 0, token(api.LexerName, 0, "a")},
		{"/* a", 1, token(api.LexerOperator, 1, "*")},
		{"00", 1, number(1, "0", 0)},
		{"abcdefghijklmnopq", 1, token(api.LexerName, 1, "bcdefghijklmnopq")},
		{rep(" ", api.MaxString-1) + "a", 0, token(api.LexerName, api.MaxString-1, "a")},
		{rep("(", api.MaxString), 50000, token(api.LexerOperator, 50000, "(")},
	}
	for _, c := range cases {
		if x, e := lexer.NextToken(c.text, c.at); x != c.want || e != api.OK {
			t.Errorf("NextToken(%.40q, %d): %v, %d, not %v", c.text, c.at, x, e, c.want)
		}
	}
}

// P5.1
func TestNextTokenErrors(t *testing.T) {
	cases := []struct {
		text string
		at   int
		want api.Errno
	}{
		{"", 0, api.ErrNone},
		{"", 1, api.ErrRange},
		{"", -1, api.ErrRange},
		{"a", 1, api.ErrNone},
		{"a", 2, api.ErrRange},
		{"\x80", 1, api.ErrNone},
		{"\x80", 2, api.ErrRange},
		{"ab ", 2, api.ErrNone},
		{"ab /* c */ // d", 2, api.ErrNone},
		{"ab /* c", 2, api.ErrOpen},
		{"ab /* c \x80", 2, api.ErrKind},
		{"ab //\x80\nc", 2, api.ErrKind},
		{"ab \x80", 2, api.ErrKind},
		{"ab @", 2, api.ErrSyntax},
		{"a /* b */ e", 8, api.ErrSyntax},
		{"a 1a", 1, api.ErrSyntax},
		{"a 17'h0", 1, api.ErrRange},
		{"abcdefghijklmnopq", 0, api.ErrName},
		{rep(" ", api.MaxString), 0, api.ErrNone},
		{rep(" ", api.MaxString), api.MaxString, api.ErrNone},
		{rep(" ", api.MaxString), api.MaxString + 1, api.ErrRange},
		{rep("a ", 30001), 0, api.ErrLarge},
		{rep("a ", 30001), -1, api.ErrLarge},
	}
	for _, at := range extremes {
		cases = append(cases, struct {
			text string
			at   int
			want api.Errno
		}{"ab", at, api.ErrRange})
	}
	for _, c := range cases {
		if x, e := lexer.NextToken(c.text, c.at); x != (api.LexerToken{}) || e != c.want {
			t.Errorf("NextToken(%.40q, %d): %v, %d, not %d", c.text, c.at, x, e, c.want)
		}
	}
}

// P5.1: the text before the offset does not matter, nor does what follows the token.
func TestNextTokenIsFirst(t *testing.T) {
	eachArbitrary(2000, func(d *dice, text string) {
		for at := 0; at <= len(text); at++ {
			r := readingOf(text[at:], false)
			want, wrong := api.LexerToken{}, r.e
			if len(r.tokens) > 0 {
				want, wrong = moved(r.tokens, at)[0], api.OK
			} else if r.e == api.OK {
				wrong = api.ErrNone
			}
			if got, e := lexer.NextToken(text, at); got != want || e != wrong {
				t.Fatalf("NextToken(%q, %d): %v, %d, not %v, %d", text, at, got, e, want, wrong)
			}
		}
	})
}

// P5.8
func TestTokenByToken(t *testing.T) {
	good := 0
	eachArbitrary(20000, func(d *dice, text string) {
		want, _, wrong := lexer.Tokens(text)
		var l []api.LexerToken
		at := 0
		for {
			x, e := lexer.NextToken(text, at)
			if e == api.ErrNone && wrong == api.OK {
				break
			}
			if e != api.OK {
				if e != wrong {
					t.Fatalf("%q: %d at %d, not %d", text, e, at, wrong)
				}
				return
			}
			l = append(l, x)
			at = x.At + len(x.Text)
		}
		good++
		if !slices.Equal(l, want) {
			t.Fatalf("%q: %v, not %v", text, l, want)
		}
	})
	if good < 2000 {
		t.Error(good)
	}
}

// R3, R4: results are alike, and share no memory.
func TestTokensMemory(t *testing.T) {
	text := "a + b"
	l, _, _ := lexer.Tokens(text)
	l[0], l[1] = l[2], l[2]
	again, _, _ := lexer.Tokens(text)
	if want := (api.LexerToken{Kind: api.LexerName, Text: "a"}); again[0] != want {
		t.Error(again)
	}
}
