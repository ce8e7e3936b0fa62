package bits

import "ratchet/api"

// CountsOf returns how many ones, leading and trailing zeros a value has, and its parity.
func CountsOf(a api.Bits) (api.BitsCounts, api.Errno) {
	if e := CheckBits(a); e != api.OK {
		return api.BitsCounts{}, e
	}
	// Without a 1 these say that all zeros are leading and trailing ones.
	first, last, ones := a.Width, -1, 0
	eachOne(a, func(i int) {
		first, last = min(first, i), i
		ones++
	})
	return api.BitsCounts{Ones: ones, Leading: a.Width - 1 - last, Trailing: first, Parity: ones % 2}, api.OK
}

// GrayOf returns the Gray code of a value.
func GrayOf(a api.Bits) (api.Bits, api.Errno) {
	if e := CheckBits(a); e != api.OK {
		return api.Bits{}, e
	}
	return bitwise(a.Width, func(i int) int { return bitAt(a, i) ^ bitAt(a, i+1) }), api.OK
}

// FromGray returns the value that has a Gray code.
func FromGray(a api.Bits) (api.Bits, api.Errno) {
	if e := CheckBits(a); e != api.OK {
		return api.Bits{}, e
	}
	value := 0
	for code := a.Value; code > 0; code >>= 1 {
		value ^= code
	}
	return api.Bits{Width: a.Width, Value: value}, api.OK
}

// OneHot returns the value of which only the bit with an index is 1.
func OneHot(index, width int) (api.Bits, api.Errno) {
	e := firstError(
		errorIf(!isWidth(width), api.ErrWidth),
		errorIf(index < 0 || index >= width, api.ErrRange),
	)
	if e != api.OK {
		return api.Bits{}, e
	}
	return api.Bits{Width: width, Value: 1 << index}, api.OK
}

// IndexOf returns the index of the only bit that is 1.
func IndexOf(a api.Bits) (int, api.Errno) {
	if e := CheckBits(a); e != api.OK {
		return 0, e
	}
	index, ones := 0, 0
	eachOne(a, func(i int) {
		index = i
		ones++
	})
	if ones != 1 {
		return 0, api.ErrForm
	}
	return index, api.OK
}

// Permuted returns the value whose bit i is the bit order[i] of a value.
func Permuted(a api.Bits, order []int) (api.Bits, api.Errno) {
	if e := firstError(CheckBits(a), errorOfOrder(order, a.Width)); e != api.OK {
		return api.Bits{}, e
	}
	return bitwise(a.Width, func(i int) int { return bitAt(a, order[i]) }), api.OK
}

func errorOfOrder(order []int, width int) api.Errno {
	if len(order) != width {
		return api.ErrShape
	}
	seen := map[int]bool{}
	for _, i := range order {
		e := firstError(
			errorIf(i < 0 || i >= width, api.ErrMissing),
			errorIf(seen[i], api.ErrDouble),
		)
		if e != api.OK {
			return e
		}
		seen[i] = true
	}
	return api.OK
}

// SignedOf returns a value as a two's complement.
func SignedOf(a api.Bits) (int, api.Errno) {
	if e := CheckBits(a); e != api.OK {
		return 0, e
	}
	return signed(a), api.OK
}

// FromSigned returns the value that is a number as a two's complement.
func FromSigned(n, width int) (api.Bits, api.Errno) {
	if !isWidth(width) {
		return api.Bits{}, api.ErrWidth
	}
	x := wrapped(n, width)
	if signed(x) != n {
		return api.Bits{}, api.ErrRange
	}
	return x, api.OK
}
