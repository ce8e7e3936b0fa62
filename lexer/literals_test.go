package lexer_test

import (
	"fmt"
	"strings"
	"testing"

	"ratchet/api"
	"ratchet/lexer"
)

// P5.5, P5.10: ParseLiteral reverses FormatLiteral for each of the three signs.
func TestFormatAndParse(t *testing.T) {
	for width := 1; width <= 16; width++ {
		for value := range 1 << width {
			for sign, want := range map[byte]string{
				'b': fmt.Sprintf("%d'b%0*b", width, width, value),
				'd': fmt.Sprintf("%d'd%d", width, value),
				'h': fmt.Sprintf("%d'h%0*x", width, (width+3)/4, value),
			} {
				s, e := lexer.FormatLiteral(value, width, sign)
				if s != want || e != api.OK {
					t.Fatalf("FormatLiteral(%d, %d, %q): %q, %d, not %q", value, width, sign, s, e, want)
				}
				if x, e := lexer.ParseLiteral(s); x != [2]int{value, width} || e != api.OK {
					t.Fatalf("ParseLiteral(%q): %v, %d", s, x, e)
				}
			}
		}
	}
}

// P5.5
func TestFormatErrors(t *testing.T) {
	check := func(value, width int, sign byte, want api.Errno) {
		t.Helper()
		if s, e := lexer.FormatLiteral(value, width, sign); s != "" || e != want {
			t.Errorf("FormatLiteral(%d, %d, %q): %q, %d, not %d", value, width, sign, s, e, want)
		}
	}
	for c := range 256 {
		sign := byte(c)
		if sign != 'b' && sign != 'd' && sign != 'h' {
			check(5, 4, sign, api.ErrKind)
			check(0, 1, sign, api.ErrKind)
		}
		check(16, 4, sign, api.ErrRange)
		check(-1, 4, sign, api.ErrRange)
		check(0, 0, sign, api.ErrRange)
		check(0, 17, sign, api.ErrRange)
		check(65536, 16, sign, api.ErrRange)
		for _, n := range extremes {
			check(n, 4, sign, api.ErrRange)
			check(0, n, sign, api.ErrRange)
			check(n, n, sign, api.ErrRange)
		}
	}
	for width := 1; width <= 16; width++ {
		check(1<<width, width, 'd', api.ErrRange)
	}
}

// P5.5
func TestParseExamples(t *testing.T) {
	for s, want := range map[string][2]int{
		"8'hff":                {255, 8},
		"4'b0101":              {5, 4},
		"4'h5":                 {5, 4},
		"4'd5":                 {5, 4},
		"1'b0":                 {0, 1},
		"1'd1":                 {1, 1},
		"5'h10":                {16, 5},
		"16'hffff":             {65535, 16},
		"16'd65535":            {65535, 16},
		"16'b1111111111111111": {65535, 16},
		"4'b1":                 {1, 4},
		"4'b0000000000000001":  {1, 4},
		"4'd0000000000000015":  {15, 4},
		"4'h000000000000000f":  {15, 4},
		"8'hbd":                {0xbd, 8},
	} {
		if x, e := lexer.ParseLiteral(s); x != want || e != api.OK {
			t.Errorf("ParseLiteral(%q): %v, %d, not %v", s, x, e, want)
		}
	}
}

// P5.5: ErrSyntax comes before ErrRange.
func TestParseErrors(t *testing.T) {
	for want, list := range map[api.Errno][]string{
		api.ErrSyntax: {
			"", "'", "4", "4'", "4'b", "'b1", "b1", "4b1", "4'1", "4'b2", "4'd", "4'da", "4'h", "4'hg", "4'hF", "4'HF", "4'B1", "4'D1", "4'o1", "4'x1",
			" 4'b1", "4'b1 ", "4 'b1", "4' b1", "4'b 1", "4''b1", "4'b1'", "4'b1'b1", "4'b1;", "4'b_1", "4'b1_0", "4'b1\n", "4'b\x80", "4'b-1", "4'b+1",
			"04'b1", "00'b1", "004'b1", "-4'b1", "+4'b1", "a'b1", "4a'b1", "1_6'b1", "-0'b0",
			"1000000000'b0", "0000000000'b0", "017'b0", "17'b2", "17'", "0'", "17'h", "0'd", "0'hg", "2'd4a", "99'dx",
			"4'b00000000000000000", "4'd00000000000000000", "4'h00000000000000000", "16'd99999999999999999", "17'h" + rep("0", 17),
			"4'd" + rep("0", api.MaxString+1), rep("9", api.MaxString+1), rep("9", api.MaxString+1) + "'b0", rep("'", api.MaxString+1),
		},
		api.ErrRange: {
			"0'h0", "0'b1", "17'h0", "17'h" + rep("f", 16), "99'd0", "999999999'b0", "100000000'b0", "65537'b1", "20'hfffff",
			"1'd2", "1'b10", "2'd4", "4'd16", "4'h10", "4'b10000", "8'h100", "8'd256", "15'h8000", "16'd65536", "16'h10000", "16'h0000000000010000",
			"16'd9999999999999999", "16'hffffffffffffffff", "16'h8000000000000000", "16'h8000000000000001", "16'h1000000000000000", "16'h0000000100000001",
			"4'b1111111111111111", "15'b1000000000000000", "16'd4294967297", "16'd1000000000000000", "16'h000000003b9aca00",
		},
	} {
		for _, s := range list {
			if x, e := lexer.ParseLiteral(s); x != [2]int{} || e != want {
				t.Errorf("ParseLiteral(%.40q): %v, %d, not %d", s, x, e, want)
			}
		}
	}
}

// P5.5: each byte at each place of a string is taken exactly if the definition says so.
func TestParseEachByte(t *testing.T) {
	for c := range 256 {
		b := byte(c)
		decimal := b >= '0' && b <= '9'
		for place, fits := range map[string]bool{
			"?'d1":   decimal,
			"1?'d1":  decimal,
			"?6'd1":  decimal && b != '0',
			"8?d1":   b == '\'',
			"8'?1":   b == 'b' || b == 'd' || b == 'h',
			"16'b?":  b == '0' || b == '1',
			"16'd?":  decimal,
			"16'h?":  decimal || b >= 'a' && b <= 'f',
			"16'h1?": decimal || b >= 'a' && b <= 'f',
			"16'd1?": decimal,
			"8'd1?1": decimal,
			"?8'd1":  decimal && b != '0',
			"8'd1?":  decimal,
		} {
			s := strings.Replace(place, "?", string([]byte{b}), 1)
			if _, e := lexer.ParseLiteral(s); fits == (e == api.ErrSyntax) {
				t.Errorf("ParseLiteral(%q): %d", s, e)
			}
		}
	}
}

// P5.1, P5.5: a text of one literal is a token with the value and the width of ParseLiteral, or has its error.
func TestLiteralsAsTokens(t *testing.T) {
	for _, width := range []string{"0", "1", "4", "04", "16", "17", "999999999", "1000000000"} {
		for _, sign := range []string{"b", "d", "h", "x", ""} {
			for _, digits := range []string{"", "0", "1", "2", "00", "01", "15", "16", "ff", "65535", "65536", rep("0", 16), rep("1", 16), rep("0", 17)} {
				s := width + "'" + sign + digits
				x, want := lexer.ParseLiteral(s)
				l, at, e := lexer.Tokens(s)
				if at != 0 || e != want || e == api.OK && (len(l) != 1 || l[0] != literal(0, s, x[0], x[1])) {
					t.Errorf("Tokens(%q): %v, %d, %d, not %v, %d", s, l, at, e, x, want)
				}
			}
		}
	}
}
