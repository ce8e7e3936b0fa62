// Package bits is chapter 1: values of 1 to 16 bits, their operations and strings. See shared/doc/01-bits.md.
package bits

import "ratchet/api"

// CheckBits returns the error of a value.
func CheckBits(x api.Bits) api.Errno {
	// A negative number of bits cannot be shifted by, so that the width comes first.
	if !isWidth(x.Width) {
		return api.ErrWidth
	}
	return errorIf(x.Value < 0 || x.Value > highest(x.Width), api.ErrRange)
}

func isWidth(width int) bool { return width >= 1 && width <= api.MaxWidth }

// highest is the greatest value of a width, whose bits are all 1.
func highest(width int) int { return 1<<width - 1 }

// firstError is the first error of a list in the order in which a promise lists them.
func firstError(list ...api.Errno) api.Errno {
	for _, e := range list {
		if e != api.OK {
			return e
		}
	}
	return api.OK
}

func errorIf(wrong bool, e api.Errno) api.Errno {
	if wrong {
		return e
	}
	return api.OK
}

// flag is a truth value as a bit.
func flag(set bool) int {
	if set {
		return 1
	}
	return 0
}

// bitAt is a bit of a value; around the value there are zeros.
func bitAt(x api.Bits, i int) int {
	if i < 0 || i >= x.Width {
		return 0
	}
	return x.Value >> i & 1
}

// bitwise is the value of which each bit is what a function says.
func bitwise(width int, bit func(i int) int) api.Bits {
	value := 0
	for i := range width {
		value |= bit(i) << i
	}
	return api.Bits{Width: width, Value: value}
}

// eachOne visits the bits that are 1, from the lowest one on.
func eachOne(x api.Bits, visit func(i int)) {
	for i := range x.Width {
		if bitAt(x, i) == 1 {
			visit(i)
		}
	}
}

// wrapped is a number modulo 2 to the power of a width.
func wrapped(n, width int) api.Bits {
	return api.Bits{Width: width, Value: n & highest(width)}
}

// signed is a value as a two's complement.
func signed(x api.Bits) int {
	return x.Value - bitAt(x, x.Width-1)<<x.Width
}
