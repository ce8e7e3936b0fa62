package bits

import (
	"strconv"
	"strings"

	"ratchet/api"
)

// maxDigits is how many digits a string may have.
const maxDigits = 20

// numerals are a base, its letter, and how many digits a value of a width has at least.
type numerals struct {
	base   int
	letter string
	places func(width int) int
}

func allNumerals() [3]numerals {
	return [3]numerals{
		{2, "b", func(width int) int { return width }},
		{10, "d", func(width int) int { return 1 }},
		{16, "h", func(width int) int { return (width + 3) / 4 }},
	}
}

// numeralsThat are the first ones that fit, and whether there are any.
func numeralsThat(fit func(n numerals) bool) (numerals, bool) {
	for _, n := range allNumerals() {
		if fit(n) {
			return n, true
		}
	}
	return numerals{}, false
}

// FormatBits returns the string of a value.
func FormatBits(a api.Bits, base int) (string, api.Errno) {
	used, known := numeralsThat(func(n numerals) bool { return n.base == base })
	if e := firstError(CheckBits(a), errorIf(!known, api.ErrKind)); e != api.OK {
		return "", e
	}
	digits := strconv.FormatInt(int64(a.Value), base)
	zeros := strings.Repeat("0", max(0, used.places(a.Width)-len(digits)))
	return strconv.Itoa(a.Width) + "'" + used.letter + zeros + digits, api.OK
}

// ParseBits returns the value of a string.
func ParseBits(s string) (api.Bits, api.Errno) {
	if len(s) > api.MaxString {
		return api.Bits{}, api.ErrLarge
	}
	x, formed := literalOf(s)
	if e := firstError(errorIf(!formed, api.ErrSyntax), CheckBits(x)); e != api.OK {
		return api.Bits{}, e
	}
	return x, api.OK
}

// literalOf is the width and the number of a string, whether they fit or not, and whether the string is well formed.
func literalOf(s string) (api.Bits, bool) {
	before, after, _ := strings.Cut(s, "'")
	width, plain := widthOf(before)
	used, known := numeralsThat(func(n numerals) bool { return strings.HasPrefix(after, n.letter) })
	if !plain || !known {
		return api.Bits{}, false
	}
	value, formed := numberOf(after[len(used.letter):], used.base)
	return api.Bits{Width: width, Value: value}, formed
}

// widthOf is a number of one or two digits without leading zeros. (With two bytes no sign "_" has a digit on both sides.)
func widthOf(s string) (int, bool) {
	if len(s) > 2 || len(s) == 2 && s[0] == '0' {
		return 0, false
	}
	return numberOf(s, 10)
}

// numberOf is the number that digits and signs "_" between them stand for, and whether they are well formed.
func numberOf(s string, base int) (int, bool) {
	value, count := 0, 0
	afterDigit := false
	for i := range len(s) {
		if s[i] == '_' {
			if !afterDigit {
				return 0, false
			}
			afterDigit = false
			continue
		}
		digit := digitOf(s[i])
		if digit < 0 || digit >= base {
			return 0, false
		}
		// A number that fits no width stays one: it must not wrap around to one that does.
		value = min(value*base+digit, highest(api.MaxWidth)+1)
		count++
		afterDigit = true
	}
	return value, afterDigit && count <= maxDigits
}

// digitOf is the number of a digit up to 15, or -1.
func digitOf(c byte) int {
	switch {
	case c >= '0' && c <= '9':
		return int(c - '0')
	case c >= 'a' && c <= 'f':
		return int(c-'a') + 10
	case c >= 'A' && c <= 'F':
		return int(c-'A') + 10
	}
	return -1
}
