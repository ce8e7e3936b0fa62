package lexer

import (
	"strconv"
	"strings"

	"ratchet/api"
)

const (
	maxSizedDigits = 16         // digits of a sized literal
	tooMuch        = 1000000000 // more than a number of MaxLexerDigits digits, and than a value of MaxWidth bits
)

// base is the sign of a base, the base, and for how many bits a literal has a digit at least.
type base struct {
	sign         byte
	number, bits int
}

var bases = [3]base{
	{'b', 2, 1},
	{'d', 10, api.MaxWidth},
	{'h', 16, 4},
}

// baseOf is the base with a sign, and whether there is one.
func baseOf(sign byte) (base, bool) {
	for _, b := range bases {
		if b.sign == sign {
			return b, true
		}
	}
	return base{}, false
}

// ParseLiteral returns the value and the width of a sized literal.
func ParseLiteral(s string) ([2]int, api.Errno) {
	value, width, formed := sizedIn(s)
	if !formed {
		return [2]int{}, api.ErrSyntax
	}
	if !fits(value, width) {
		return [2]int{}, api.ErrRange
	}
	return [2]int{value, width}, api.OK
}

// FormatLiteral returns the sized literal of a value with a width.
func FormatLiteral(value, width int, sign byte) (string, api.Errno) {
	if !fits(value, width) {
		return "", api.ErrRange
	}
	used, known := baseOf(sign)
	if !known {
		return "", api.ErrKind
	}
	digits := strconv.FormatInt(int64(value), used.number)
	least := (width + used.bits - 1) / used.bits
	zeros := strings.Repeat("0", max(0, least-len(digits)))
	return strconv.Itoa(width) + "'" + string([]byte{sign}) + zeros + digits, api.OK
}

// fits says whether a width is one, and a value one of this width.
func fits(value, width int) bool {
	return width >= 1 && width <= api.MaxWidth && value >= 0 && value < 1<<width
}

// numeralOf is a token that begins with a digit, with its kind, value and width, and its error.
func numeralOf(t api.LexerToken) (api.LexerToken, api.Errno) {
	if value, formed := numberIn(t.Text); formed {
		t.Kind, t.Value = api.LexerNumber, value
		return t, api.OK
	}
	sized, e := ParseLiteral(t.Text)
	t.Kind, t.Value, t.Width = api.LexerLiteral, sized[0], sized[1]
	return t, e
}

// sizedIn is the value and the width of a sized literal, whether they fit or not, and whether a string is one.
func sizedIn(s string) (value, width int, formed bool) {
	before, after, _ := strings.Cut(s, "'")
	width, plain := numberIn(before)
	if !plain || after == "" {
		return 0, 0, false
	}
	used, known := baseOf(after[0])
	if !known {
		return 0, 0, false
	}
	value, formed = digitsIn(after[1:], used.number, maxSizedDigits)
	return value, width, formed
}

// numberIn is the value of a number, and whether a string is one.
func numberIn(s string) (int, bool) {
	if len(s) > 1 && s[0] == '0' {
		return 0, false
	}
	return digitsIn(s, 10, api.MaxLexerDigits)
}

// digitsIn is the value of digits (at most tooMuch), and whether a string is digits below a number, at least one and at most so many.
func digitsIn(s string, below, most int) (int, bool) {
	if s == "" || len(s) > most {
		return 0, false
	}
	value := 0
	for i := range len(s) {
		digit := digitOf(s[i])
		if digit < 0 || digit >= below {
			return 0, false
		}
		// What fits no width must not wrap around to a value that does.
		value = min(value*below+digit, tooMuch)
	}
	return value, true
}

// digitOf is the number of a digit up to 15, or -1.
func digitOf(c byte) int {
	switch {
	case isDigit(c):
		return int(c - '0')
	case c >= 'a' && c <= 'f':
		return int(c-'a') + 10
	}
	return -1
}
