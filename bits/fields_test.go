package bits_test

import (
	"slices"
	"testing"

	"ratchet/api"
	"ratchet/bits"
)

// shiftedByHand shifts by one, as often as is asked for.
func shiftedByHand(a api.Bits, kind, by int) api.Bits {
	l := digits(a) // the lowest bit first
	for range by {
		top, bottom := l[len(l)-1], l[0]
		switch kind {
		case api.ShiftLeft:
			l = append([]int{0}, l[:len(l)-1]...)
		case api.ShiftRight:
			l = append(slices.Clone(l[1:]), 0)
		case api.ShiftSigned:
			l = append(slices.Clone(l[1:]), top)
		case api.RotateLeft:
			l = append([]int{top}, l[:len(l)-1]...)
		case api.RotateRight:
			l = append(slices.Clone(l[1:]), bottom)
		}
	}
	return fromDigits(l)
}

// P1.4
func TestShifted(t *testing.T) {
	eachValue(func(a api.Bits) {
		for kind := range api.ShiftKinds {
			for by := 0; by <= api.MaxWidth; by++ {
				want := shiftedByHand(a, kind, by)
				if s, e := bits.Shifted(a, kind, by); s != want || e != api.OK {
					t.Errorf("Shifted(%v, %d, %d): %v, %d, not %v", a, kind, by, s, e, want)
				}
			}
		}
	})
}

// P1.4: the examples, and the edge case of a shift by the width.
func TestShiftedExamples(t *testing.T) {
	cases := []struct {
		a        api.Bits
		kind, by int
		want     api.Bits
	}{
		{of(4, 0b1011), api.ShiftLeft, 1, of(4, 0b0110)},
		{of(4, 0b1011), api.ShiftRight, 1, of(4, 0b0101)},
		{of(4, 0b1011), api.ShiftSigned, 1, of(4, 0b1101)},
		{of(4, 0b1011), api.RotateLeft, 1, of(4, 0b0111)},
		{of(4, 0b1011), api.RotateRight, 5, of(4, 0b1101)},
		{of(4, 0b1011), api.ShiftLeft, 4, of(4, 0)},
		{of(4, 0b1011), api.ShiftRight, 4, of(4, 0)},
		{of(4, 0b1011), api.ShiftLeft, 16, of(4, 0)},
		{of(4, 0b1011), api.ShiftRight, 16, of(4, 0)},
		{of(4, 0b1011), api.ShiftSigned, 16, of(4, 15)},
		{of(4, 0b0011), api.ShiftSigned, 16, of(4, 0)},
		{of(4, 0b1011), api.RotateLeft, 16, of(4, 0b1011)},
		{of(3, 0b011), api.RotateLeft, 16, of(3, 0b110)},
		{of(1, 1), api.RotateRight, 7, of(1, 1)},
		{of(16, 0x8001), api.ShiftSigned, 15, of(16, 0xffff)},
		{of(16, 0x8001), api.ShiftLeft, 16, of(16, 0)},
		{of(16, 0x8001), api.RotateLeft, 16, of(16, 0x8001)},
	}
	for i, c := range cases {
		if s, e := bits.Shifted(c.a, c.kind, c.by); s != c.want || e != api.OK {
			t.Errorf("case %d: %v, %d, not %v", i, s, e, c.want)
		}
	}
}

// P1.4
func TestShiftedErrors(t *testing.T) {
	cases := []struct {
		a        api.Bits
		kind, by int
		want     api.Errno
	}{
		{wrongWidth, api.ShiftKinds, 17, api.ErrWidth},
		{wrongValue, api.ShiftKinds, 17, api.ErrRange},
		{wrongValue, -1, 0, api.ErrRange},
		{of(4, 1), api.ShiftKinds, 17, api.ErrKind},
		{of(4, 1), -1, -1, api.ErrKind},
		{of(4, 1), api.ShiftKinds, 0, api.ErrKind},
		{of(4, 1), -1, 0, api.ErrKind},
		{of(4, 1), api.ShiftLeft, 17, api.ErrRange},
		{of(4, 1), api.ShiftRight, -1, api.ErrRange},
		{of(4, 1), api.RotateLeft, 17, api.ErrRange},
		{of(4, 1), api.RotateRight, -1, api.ErrRange},
		{of(16, 1), api.ShiftSigned, 17, api.ErrRange},
	}
	for i, c := range cases {
		if s, e := bits.Shifted(c.a, c.kind, c.by); s != (api.Bits{}) || e != c.want {
			t.Errorf("case %d: %v, %d, not %d", i, s, e, c.want)
		}
	}
}

// P1.5
func TestFields(t *testing.T) {
	eachValue(func(a api.Bits) {
		for low := range a.Width {
			for width := 1; low+width <= a.Width; width++ {
				want := fromDigits(digits(a)[low : low+width])
				if f, e := bits.FieldOf(a, low, width); f != want || e != api.OK {
					t.Fatalf("FieldOf(%v, %d, %d): %v, %d, not %v", a, low, width, f, e, want)
				}
				for _, b := range []api.Bits{of(width, 0), of(width, power(width)-1), of(width, a.Value%7%power(width))} {
					l := digits(a)
					copy(l[low:], digits(b))
					if w, e := bits.WithField(a, low, b); w != fromDigits(l) || e != api.OK {
						t.Fatalf("WithField(%v, %d, %v): %v, %d, not %v", a, low, b, w, e, fromDigits(l))
					}
				}
			}
		}
	})
}

// P1.5
func TestFieldExamples(t *testing.T) {
	if f, e := bits.FieldOf(of(8, 0b10110100), 2, 3); f != of(3, 0b101) || e != api.OK {
		t.Errorf("FieldOf: %v, %d", f, e)
	}
	if w, e := bits.WithField(of(8, 0b10110100), 2, of(3, 0b010)); w != of(8, 0b10101000) || e != api.OK {
		t.Errorf("WithField: %v, %d", w, e)
	}
	if f, e := bits.FieldOf(of(16, 0xbeef), 0, 16); f != of(16, 0xbeef) || e != api.OK {
		t.Errorf("FieldOf the whole: %v, %d", f, e)
	}
	if w, e := bits.WithField(of(16, 0xbeef), 0, of(16, 0x1234)); w != of(16, 0x1234) || e != api.OK {
		t.Errorf("WithField of the whole: %v, %d", w, e)
	}
	if f, e := bits.FieldOf(of(16, 0x8000), 15, 1); f != of(1, 1) || e != api.OK {
		t.Errorf("FieldOf the highest bit: %v, %d", f, e)
	}
}

// P1.5
func TestFieldErrors(t *testing.T) {
	fields := []struct {
		a          api.Bits
		low, width int
		want       api.Errno
	}{
		{wrongWidth, -1, 0, api.ErrWidth},
		{wrongValue, 16, 16, api.ErrRange},
		{of(4, 1), -1, 1, api.ErrRange},
		{of(4, 1), 17, 1, api.ErrRange},
		{of(4, 1), 0, 0, api.ErrRange},
		{of(4, 1), 0, -1, api.ErrRange},
		{of(4, 1), 0, 17, api.ErrRange},
		{of(4, 1), 4, 0, api.ErrRange},
		{of(4, 1), 4, 17, api.ErrRange},
		{of(4, 1), 17, 16, api.ErrRange},
		{of(4, 1), 16, 1, api.ErrWidth},
		{of(4, 1), 0, 16, api.ErrWidth},
		{of(4, 1), 16, 16, api.ErrWidth},
		{of(4, 1), 4, 1, api.ErrWidth},
		{of(4, 1), 0, 5, api.ErrWidth},
		{of(4, 1), 2, 3, api.ErrWidth},
		{of(16, 1), 16, 1, api.ErrWidth},
		{of(16, 1), 1, 16, api.ErrWidth},
	}
	for i, c := range fields {
		if f, e := bits.FieldOf(c.a, c.low, c.width); f != (api.Bits{}) || e != c.want {
			t.Errorf("FieldOf, case %d: %v, %d, not %d", i, f, e, c.want)
		}
	}
	withFields := []struct {
		a    api.Bits
		low  int
		b    api.Bits
		want api.Errno
	}{
		{wrongWidth, -1, wrongValue, api.ErrWidth},
		{wrongValue, -1, wrongWidth, api.ErrRange},
		{of(4, 1), -1, wrongWidth, api.ErrWidth},
		{of(4, 1), 4, wrongValue, api.ErrRange},
		{of(4, 1), -1, of(1, 1), api.ErrRange},
		{of(4, 1), 17, of(1, 1), api.ErrRange},
		{of(4, 1), 17, of(16, 1), api.ErrRange},
		{of(4, 1), 16, of(1, 1), api.ErrWidth},
		{of(4, 1), 4, of(1, 1), api.ErrWidth},
		{of(4, 1), 0, of(5, 1), api.ErrWidth},
		{of(4, 1), 1, of(4, 1), api.ErrWidth},
		{of(16, 1), 16, of(1, 1), api.ErrWidth},
	}
	for i, c := range withFields {
		if w, e := bits.WithField(c.a, c.low, c.b); w != (api.Bits{}) || e != c.want {
			t.Errorf("WithField, case %d: %v, %d, not %d", i, w, e, c.want)
		}
	}
}

// P1.5
func TestJoined(t *testing.T) {
	one := of(1, 1)
	cases := []struct {
		l    []api.Bits
		want api.Bits
	}{
		{[]api.Bits{of(2, 0b10), of(3, 0b011)}, of(5, 0b10011)},
		{[]api.Bits{of(4, 9)}, of(4, 9)},
		{[]api.Bits{of(16, 65535)}, of(16, 65535)},
		{[]api.Bits{of(8, 0x12), of(8, 0x34)}, of(16, 0x1234)},
		{[]api.Bits{of(1, 1), of(15, 0)}, of(16, 0x8000)},
		{[]api.Bits{of(3, 0), of(2, 1), of(4, 15)}, of(9, 0b000011111)},
		{[]api.Bits{one, one, one, one, one, one, one, one, one, one, one, one, one, one, one, one}, of(16, 65535)},
	}
	for i, c := range cases {
		before := slices.Clone(c.l)
		if j, e := bits.Joined(c.l); j != c.want || e != api.OK {
			t.Errorf("case %d: %v, %d, not %v", i, j, e, c.want)
		}
		if !slices.Equal(c.l, before) {
			t.Errorf("case %d: the argument was modified", i)
		}
	}
}

// P1.5
func TestJoinedErrors(t *testing.T) {
	many := slices.Repeat([]api.Bits{of(1, 1)}, 17)
	cases := []struct {
		l    []api.Bits
		want api.Errno
	}{
		{nil, api.ErrShape},
		{[]api.Bits{}, api.ErrShape},
		{many, api.ErrLarge},
		{append([]api.Bits{wrongWidth}, many...), api.ErrLarge},
		{append([]api.Bits{wrongValue}, many[1:]...), api.ErrLarge},
		{append([]api.Bits{wrongValue}, many[2:]...), api.ErrRange},
		{[]api.Bits{wrongValue, wrongWidth}, api.ErrRange},
		{[]api.Bits{wrongWidth, wrongValue}, api.ErrWidth},
		{[]api.Bits{of(16, 1), of(16, 1), wrongValue}, api.ErrRange},
		{[]api.Bits{of(16, 1), of(16, 1), wrongWidth}, api.ErrWidth},
		{[]api.Bits{of(8, 1), of(9, 1)}, api.ErrLarge},
		{[]api.Bits{of(16, 1), of(1, 1)}, api.ErrLarge},
		{slices.Repeat([]api.Bits{of(16, 65535)}, 16), api.ErrLarge},
	}
	for i, c := range cases {
		if j, e := bits.Joined(c.l); j != (api.Bits{}) || e != c.want {
			t.Errorf("case %d: %v, %d, not %d", i, j, e, c.want)
		}
	}
}

// P1.12: fields joined again are the value.
func TestFieldsJoinedAgain(t *testing.T) {
	eachValue(func(a api.Bits) {
		var single []api.Bits
		for i := range a.Width {
			bit, _ := bits.FieldOf(a, a.Width-1-i, 1)
			single = append(single, bit)
		}
		if j, e := bits.Joined(single); j != a || e != api.OK {
			t.Errorf("the bits of %v joined: %v, %d", a, j, e)
		}
		for at := 1; at < a.Width; at++ {
			upper, _ := bits.FieldOf(a, at, a.Width-at)
			lower, _ := bits.FieldOf(a, 0, at)
			if j, e := bits.Joined([]api.Bits{upper, lower}); j != a || e != api.OK {
				t.Errorf("%v cut at %d and joined: %v, %d", a, at, j, e)
			}
			if w, e := bits.WithField(a, at, upper); w != a || e != api.OK {
				t.Errorf("%v with its own field from %d on: %v, %d", a, at, w, e)
			}
		}
	})
}

// P1.12: a rotation to the left and one by as much to the right is none.
func TestRotationsAndBack(t *testing.T) {
	eachValue(func(a api.Bits) {
		for by := 0; by <= api.MaxWidth; by++ {
			left, _ := bits.Shifted(a, api.RotateLeft, by)
			if back, e := bits.Shifted(left, api.RotateRight, by); back != a || e != api.OK {
				t.Errorf("%v rotated by %d and back: %v, %d", a, by, back, e)
			}
		}
	})
}
