package bits

import "ratchet/api"

// shift is a kind of shift: which bit of the value comes to the place i of the result.
type shift struct {
	source func(i, by, width int) int
}

func shifts() [api.ShiftKinds]shift {
	return [api.ShiftKinds]shift{
		api.ShiftLeft:   {func(i, by, width int) int { return i - by }},
		api.ShiftRight:  {func(i, by, width int) int { return i + by }},
		api.ShiftSigned: {func(i, by, width int) int { return min(i+by, width-1) }},
		// i - by may be negative, and then its remainder would be, too.
		api.RotateLeft:  {func(i, by, width int) int { return (i + width - by%width) % width }},
		api.RotateRight: {func(i, by, width int) int { return (i + by) % width }},
	}
}

// Shifted returns a value shifted or rotated.
func Shifted(a api.Bits, kind, by int) (api.Bits, api.Errno) {
	e := firstError(
		CheckBits(a),
		errorIf(kind < 0 || kind >= api.ShiftKinds, api.ErrKind),
		errorIf(by < 0 || by > api.MaxWidth, api.ErrRange),
	)
	if e != api.OK {
		return api.Bits{}, e
	}
	source := shifts()[kind].source
	return bitwise(a.Width, func(i int) int { return bitAt(a, source(i, by, a.Width)) }), api.OK
}

// FieldOf returns some bits of a value.
func FieldOf(a api.Bits, low, width int) (api.Bits, api.Errno) {
	if e := firstError(CheckBits(a), errorOfField(a, low, width)); e != api.OK {
		return api.Bits{}, e
	}
	return wrapped(a.Value>>low, width), api.OK
}

// WithField returns a value with some bits replaced.
func WithField(a api.Bits, low int, b api.Bits) (api.Bits, api.Errno) {
	if e := firstError(CheckBits(a), CheckBits(b), errorOfField(a, low, b.Width)); e != api.OK {
		return api.Bits{}, e
	}
	kept := a.Value &^ (highest(b.Width) << low)
	return api.Bits{Width: a.Width, Value: kept | b.Value<<low}, api.OK
}

func errorOfField(a api.Bits, low, width int) api.Errno {
	return firstError(
		errorIf(low < 0 || low > api.MaxWidth || !isWidth(width), api.ErrRange),
		errorIf(low+width > a.Width, api.ErrWidth),
	)
}

// Joined returns the bits of all values, those of the first one above the others.
func Joined(l []api.Bits) (api.Bits, api.Errno) {
	if e := errorOfList(l); e != api.OK {
		return api.Bits{}, e
	}
	r := api.Bits{}
	for _, x := range l {
		r = api.Bits{Width: r.Width + x.Width, Value: r.Value<<x.Width | x.Value}
	}
	return r, api.OK
}

func errorOfList(l []api.Bits) api.Errno {
	e := firstError(
		errorIf(len(l) == 0, api.ErrShape),
		errorIf(len(l) > api.MaxWidth, api.ErrLarge),
	)
	if e != api.OK {
		return e
	}
	width := 0
	for _, x := range l {
		if e := CheckBits(x); e != api.OK {
			return e
		}
		width += x.Width
	}
	return errorIf(width > api.MaxWidth, api.ErrLarge)
}
