package bits

import "ratchet/api"

// operand is a value that is also known as a two's complement.
type operand struct {
	api.Bits
	signed int
}

func operandOf(x api.Bits) operand { return operand{Bits: x, signed: signed(x)} }

// AddWith returns a + b + carry with its flags.
func AddWith(a, b api.Bits, carry int) (api.BitsSum, api.Errno) {
	if e := errorOfSum(a, b, carry); e != api.OK {
		return api.BitsSum{}, e
	}
	x, y := operandOf(a), operandOf(b)
	return flagged(x.Width, x.Value+y.Value+carry, x.signed+y.signed+carry), api.OK
}

// SubWith returns a - b - borrow with its flags.
func SubWith(a, b api.Bits, borrow int) (api.BitsSum, api.Errno) {
	if e := errorOfSum(a, b, borrow); e != api.OK {
		return api.BitsSum{}, e
	}
	x, y := operandOf(a), operandOf(b)
	return flagged(x.Width, x.Value-y.Value-borrow, x.signed-y.signed-borrow), api.OK
}

func errorOfSum(a, b api.Bits, carry int) api.Errno {
	return firstError(
		CheckBits(a),
		CheckBits(b),
		errorIf(a.Width != b.Width, api.ErrWidth),
		errorIf(carry != 0 && carry != 1, api.ErrRange),
	)
}

// flagged is a sum or a difference, given exactly: once of the values, once of their two's complements.
func flagged(width, exact, exactSigned int) api.BitsSum {
	r := wrapped(exact, width)
	return api.BitsSum{
		Sum:      r,
		Carry:    flag(exact != r.Value),
		Overflow: flag(exactSigned != signed(r)),
		Zero:     flag(r.Value == 0),
		Negative: bitAt(r, width-1),
	}
}

// MulWide returns the product with the bits of both values together.
func MulWide(a, b api.Bits) (api.Bits, api.Errno) {
	width := a.Width + b.Width
	e := firstError(CheckBits(a), CheckBits(b), errorIf(width > api.MaxWidth, api.ErrLarge))
	if e != api.OK {
		return api.Bits{}, e
	}
	return api.Bits{Width: width, Value: a.Value * b.Value}, api.OK
}

// DivMod returns the quotient, rounded down, and the remainder.
func DivMod(a, b api.Bits) (api.Bits, api.Bits, api.Errno) {
	e := firstError(
		CheckBits(a),
		CheckBits(b),
		errorIf(a.Width != b.Width, api.ErrWidth),
		errorIf(b.Value == 0, api.ErrZero),
	)
	if e != api.OK {
		return api.Bits{}, api.Bits{}, e
	}
	quotient := api.Bits{Width: a.Width, Value: a.Value / b.Value}
	rest := api.Bits{Width: a.Width, Value: a.Value % b.Value}
	return quotient, rest, api.OK
}
