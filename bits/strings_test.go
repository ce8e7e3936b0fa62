package bits_test

import (
	"fmt"
	"strings"
	"testing"

	"ratchet/api"
	"ratchet/bits"
)

// P1.9, P1.12: ParseBits reverses FormatBits in each base.
func TestFormatAndParse(t *testing.T) {
	eachValue(func(a api.Bits) {
		for base, want := range map[int]string{
			2:  fmt.Sprintf("%d'b%0*b", a.Width, a.Width, a.Value),
			10: fmt.Sprintf("%d'd%d", a.Width, a.Value),
			16: fmt.Sprintf("%d'h%0*x", a.Width, (a.Width+3)/4, a.Value),
		} {
			s, e := bits.FormatBits(a, base)
			if s != want || e != api.OK {
				t.Errorf("FormatBits(%v, %d): %q, %d, not %q", a, base, s, e, want)
			}
			if back, e := bits.ParseBits(s); back != a || e != api.OK {
				t.Errorf("ParseBits(%q): %v, %d, not %v", s, back, e, a)
			}
		}
	})
}

// P1.9
func TestFormatExamples(t *testing.T) {
	cases := []struct {
		a    api.Bits
		base int
		want string
	}{
		{of(8, 200), 16, "8'hc8"},
		{of(8, 200), 2, "8'b11001000"},
		{of(8, 200), 10, "8'd200"},
		{of(9, 255), 16, "9'h0ff"},
		{of(4, 0), 2, "4'b0000"},
		{of(4, 0), 10, "4'd0"},
		{of(4, 0), 16, "4'h0"},
		{of(1, 1), 16, "1'h1"},
		{of(16, 10), 16, "16'h000a"},
		{of(16, 65535), 10, "16'd65535"},
	}
	for i, c := range cases {
		if s, e := bits.FormatBits(c.a, c.base); s != c.want || e != api.OK {
			t.Errorf("case %d: %q, %d, not %q", i, s, e, c.want)
		}
	}
}

// P1.9
func TestFormatErrors(t *testing.T) {
	for _, base := range append([]int{3, 8, 9, 11, 36}, extremes...) {
		if base == 2 || base == 10 || base == 16 {
			continue
		}
		if s, e := bits.FormatBits(of(8, 200), base); s != "" || e != api.ErrKind {
			t.Errorf("FormatBits with the base %d: %q, %d", base, s, e)
		}
		if s, e := bits.FormatBits(wrongWidth, base); s != "" || e != api.ErrWidth {
			t.Errorf("FormatBits of a wrong width with the base %d: %q, %d", base, s, e)
		}
		if s, e := bits.FormatBits(wrongValue, base); s != "" || e != api.ErrRange {
			t.Errorf("FormatBits of a wrong value with the base %d: %q, %d", base, s, e)
		}
	}
}

// P1.9
func TestParseExamples(t *testing.T) {
	for s, want := range map[string]api.Bits{
		"12'h0_FF":                   of(12, 255),
		"12'h0_ff":                   of(12, 255),
		"16'hAbCd":                   of(16, 0xabcd),
		"16'hfaFA":                   of(16, 0xfafa),
		"8'b1_1_0_0_1_0_0_0":         of(8, 200),
		"8'd2_0_0":                   of(8, 200),
		"1'b1":                       of(1, 1),
		"1'd0":                       of(1, 0),
		"4'b1":                       of(4, 1),
		"4'd0000015":                 of(4, 15),
		"4'h00f":                     of(4, 15),
		"16'd65535":                  of(16, 65535),
		"10'd1023":                   of(10, 1023),
		"16'b1111111111111111":       of(16, 65535),
		"16'b00001111111111111111":   of(16, 65535),
		"16'd00000000000000065535":   of(16, 65535),
		"16'h0000000000000000ffff":   of(16, 65535),
		"8'd0" + rep("_0", 19):       of(8, 0),
		"8'h1_2":                     of(8, 0x12),
		"8'b" + rep("0", 19) + "1":   of(8, 1),
		"2'b" + rep("0_", 18) + "11": of(2, 3),
	} {
		if b, e := bits.ParseBits(s); b != want || e != api.OK {
			t.Errorf("ParseBits(%q): %v, %d, not %v", s, b, e, want)
		}
	}
}

func rep(s string, n int) string { return strings.Repeat(s, n) }

// P1.9
func TestParseMalformed(t *testing.T) {
	for _, s := range []string{
		"", "'", "8", "8'", "8'd", "'d1", "'", "d1", "8d1", "8 'd1", "8'd1 ", " 8'd1", "8' d1", "8'd 1", "8'd1\n", "8''d1", "8'd1'", "8'd1'd1",
		"08'd1", "00'd1", "01'd1", "008'd1", "100'd1", "160'd1", "+8'd1", "-8'd1", "-1'd1", "a'd1", "1a'd1", "8_'d1", "_8'd1", "1_6'd1", "1_'d1", "_'d1", "0x8'd1", "f'd1", "1f'd1",
		"8'D1", "8'H1", "8'B1", "8'o1", "8'x1", "8'1", "8'_1", "8'_d1", "8'd'1",
		"8'd_", "8'd_1", "8'd1_", "8'd1__1", "8'b_", "8'h_f", "8'hf_", "8'b1__0",
		"8'b2", "8'b12", "8'ba", "8'da", "8'dA", "8'd1f", "8'hg", "8'hG", "8'h1g", "8'h/", "8'h:", "8'h@", "8'h`", "8'd/", "8'd:",
		"8'd+1", "8'd-1", "8'd-0", "8'd1.0", "8'h0x1", "8'd\xd9\xa1", "8'd\x00", "\u0668'd1", "8\u2019d1", "8'h\uff11",
		"8'd" + rep("0", 21), "8'b" + rep("0", 21), "8'h" + rep("0", 21), "8'd0" + rep("_0", 20), "8'd" + rep("9", 21), "8'h" + rep("f", 64),
		"17'd_1", "17'", "0'", "99'd1_", "17'b2", "0'hg",
		rep("1", api.MaxString), "8'd" + rep("1", api.MaxString-3), rep("_", api.MaxString), rep("'", api.MaxString),
	} {
		if b, e := bits.ParseBits(s); b != (api.Bits{}) || e != api.ErrSyntax {
			t.Errorf("ParseBits(%.40q): %v, %d, not %d", s, b, e, api.ErrSyntax)
		}
	}
}

// P1.9: the other errors, in their order.
func TestParseErrors(t *testing.T) {
	for s, want := range map[string]api.Errno{
		rep("1", api.MaxString+1):              api.ErrLarge,
		"8'd" + rep("0", api.MaxString-2):      api.ErrLarge,
		"8'd1" + rep(" ", api.MaxString):       api.ErrLarge,
		"0'd0":                                 api.ErrWidth,
		"0'd1":                                 api.ErrWidth,
		"17'd0":                                api.ErrWidth,
		"17'd99999999999999999999":             api.ErrWidth,
		"20'hfffff":                            api.ErrWidth,
		"99'b0":                                api.ErrWidth,
		"4'd16":                                api.ErrRange,
		"4'h10":                                api.ErrRange,
		"4'b10000":                             api.ErrRange,
		"1'd2":                                 api.ErrRange,
		"1'b10":                                api.ErrRange,
		"16'd65536":                            api.ErrRange,
		"16'h10000":                            api.ErrRange,
		"16'b10000000000000000":                api.ErrRange,
		"16'h1_0000":                           api.ErrRange,
		"16'd99999999999999999999":             api.ErrRange,
		"16'hffffffffffffffffffff":             api.ErrRange,
		"16'b11111111111111111111":             api.ErrRange,
		"16'h00010000000000000001":             api.ErrRange, // 1 modulo 2 to the power 64
		"16'h00000001000000000001":             api.ErrRange, // 1 modulo 2 to the power 32
		"16'h10000000000000000000":             api.ErrRange, // 0 modulo 2 to the power 64
		"16'h0000ffffffffffffffff":             api.ErrRange, // -1 as a two's complement of 64 bits
		"16'd18446744073709551617":             api.ErrRange, // 1 modulo 2 to the power 64
		"16'd04294967297":                      api.ErrRange, // 1 modulo 2 to the power 32
		"16'd00000000000000065537":             api.ErrRange, // 1 modulo 2 to the power 16
		"16'd1_8_4_4_6744073709551616":         api.ErrRange,
		"8'd256":                               api.ErrRange,
		"8'h1FF":                               api.ErrRange,
		"9'd" + "0000000000000000051" + "2":    api.ErrRange,
		"15'b1" + rep("0", 15):                 api.ErrRange,
		"15'h8000":                             api.ErrRange,
		"10'b1111111111_1":                     api.ErrRange,
		"10'd10_24":                            api.ErrRange,
		"3'b" + rep("0_", 16) + "1000":         api.ErrRange,
		"0'd99999999999999999999":              api.ErrWidth,
		"18'b" + rep("1", 20):                  api.ErrWidth,
		"17'h" + rep("0_", 19) + "0":           api.ErrWidth,
		rep("8'd1", api.MaxString/4) + "8":     api.ErrLarge,
		rep("\x00", api.MaxString+1):           api.ErrLarge,
		"17'd" + rep("0", api.MaxString-4):     api.ErrSyntax,
		"17'd" + rep("0", api.MaxString-4+1):   api.ErrLarge,
		"8'b" + rep("1", 20) + rep("_1", 3000): api.ErrSyntax,
	} {
		if b, e := bits.ParseBits(s); b != (api.Bits{}) || e != want {
			t.Errorf("ParseBits(%.40q): %v, %d, not %d", s, b, e, want)
		}
	}
}

// P1.9: each byte at each place of a string is taken exactly if the definition says so.
func TestParseEachByte(t *testing.T) {
	for c := range 256 {
		b := byte(c)
		decimal := b >= '0' && b <= '9'
		letter := b >= 'a' && b <= 'f' || b >= 'A' && b <= 'F'
		for place, fits := range map[string]bool{
			"?'d1":    decimal,
			"1?'d1":   decimal,
			"8?d1":    b == '\'',
			"8'?1":    b == 'b' || b == 'd' || b == 'h',
			"16'b?":   b == '0' || b == '1',
			"16'd?":   decimal,
			"16'h?":   decimal || letter,
			"16'h1?1": decimal || letter || b == '_',
			"16'd1?1": decimal || b == '_',
			"16'b1?1": b == '0' || b == '1' || b == '_',
		} {
			s := strings.Replace(place, "?", string([]byte{b}), 1)
			if _, e := bits.ParseBits(s); fits == (e == api.ErrSyntax) {
				t.Errorf("ParseBits(%q): %d", s, e)
			}
		}
	}
}
