package bits_test

import (
	"slices"
	"testing"

	"ratchet/api"
	"ratchet/bits"
)

// P1.6
func TestCountsOf(t *testing.T) {
	eachValue(func(a api.Bits) {
		l := digits(a)
		var want api.BitsCounts
		for _, d := range l {
			want.Ones += d
		}
		for want.Trailing < a.Width && l[want.Trailing] == 0 {
			want.Trailing++
		}
		for want.Leading < a.Width && l[a.Width-1-want.Leading] == 0 {
			want.Leading++
		}
		want.Parity = want.Ones % 2
		if n, e := bits.CountsOf(a); n != want || e != api.OK {
			t.Errorf("CountsOf(%v): %v, %d, not %v", a, n, e, want)
		}
	})
}

// P1.6: the example, and the edge case of 0.
func TestCountsExamples(t *testing.T) {
	for a, want := range map[api.Bits]api.BitsCounts{
		of(8, 0b00101100): {Ones: 3, Leading: 2, Trailing: 2, Parity: 1},
		of(8, 0):          {Leading: 8, Trailing: 8},
		of(1, 0):          {Leading: 1, Trailing: 1},
		of(16, 0):         {Leading: 16, Trailing: 16},
		of(16, 65535):     {Ones: 16},
		of(1, 1):          {Ones: 1, Parity: 1},
	} {
		if n, e := bits.CountsOf(a); n != want || e != api.OK {
			t.Errorf("CountsOf(%v): %v, %d, not %v", a, n, e, want)
		}
	}
}

// P1.7
func TestGrayOf(t *testing.T) {
	eachValue(func(a api.Bits) {
		l := append(digits(a), 0)
		code := make([]int, a.Width)
		for i := range code {
			code[i] = flagOf(l[i] != l[i+1])
		}
		if g, e := bits.GrayOf(a); g != fromDigits(code) || e != api.OK {
			t.Errorf("GrayOf(%v): %v, %d, not %v", a, g, e, fromDigits(code))
		}
		if back, e := bits.FromGray(fromDigits(code)); back != a || e != api.OK {
			t.Errorf("FromGray(%v): %v, %d, not %v", fromDigits(code), back, e, a)
		}
	})
}

// P1.7: the examples, and the edge case of one bit.
func TestGrayExamples(t *testing.T) {
	for a, want := range map[api.Bits]api.Bits{
		of(4, 6):      of(4, 0b0101),
		of(4, 7):      of(4, 0b0100),
		of(1, 0):      of(1, 0),
		of(1, 1):      of(1, 1),
		of(16, 65535): of(16, 0x8000),
		of(16, 43690): of(16, 65535),
	} {
		if g, e := bits.GrayOf(a); g != want || e != api.OK {
			t.Errorf("GrayOf(%v): %v, %d, not %v", a, g, e, want)
		}
		if g, e := bits.FromGray(want); g != a || e != api.OK {
			t.Errorf("FromGray(%v): %v, %d, not %v", want, g, e, a)
		}
	}
}

// P1.12: FromGray reverses GrayOf; the codes of neighbours differ in one bit.
func TestGrayCodes(t *testing.T) {
	for width := 1; width <= api.MaxWidth; width++ {
		before, _ := bits.GrayOf(of(width, 0))
		for v := range power(width) {
			g, _ := bits.GrayOf(of(width, v))
			if back, e := bits.FromGray(g); back != of(width, v) || e != api.OK {
				t.Fatalf("FromGray of GrayOf %d with %d bits: %v, %d", v, width, back, e)
			}
			if v == 0 {
				continue
			}
			differ := 0
			for i, d := range digits(g) {
				differ += flagOf(d != digits(before)[i])
			}
			if differ != 1 {
				t.Fatalf("the codes of %d and %d with %d bits differ in %d bits", v-1, v, width, differ)
			}
			before = g
		}
	}
}

// P1.7, P1.12: IndexOf reverses OneHot.
func TestOneHot(t *testing.T) {
	for width := 1; width <= api.MaxWidth; width++ {
		for index := range width {
			o, e := bits.OneHot(index, width)
			if o != of(width, power(index)) || e != api.OK {
				t.Errorf("OneHot(%d, %d): %v, %d", index, width, o, e)
			}
			if i, e := bits.IndexOf(o); i != index || e != api.OK {
				t.Errorf("IndexOf(%v): %d, %d, not %d", o, i, e, index)
			}
		}
	}
}

// P1.7
func TestOneHotErrors(t *testing.T) {
	cases := []struct {
		index, width int
		want         api.Errno
	}{
		{-1, 0, api.ErrWidth},
		{0, 0, api.ErrWidth},
		{0, -1, api.ErrWidth},
		{17, 17, api.ErrWidth},
		{0, 17, api.ErrWidth},
		{-1, 4, api.ErrRange},
		{4, 4, api.ErrRange},
		{1, 1, api.ErrRange},
		{16, 16, api.ErrRange},
		{100, 16, api.ErrRange},
	}
	for _, c := range cases {
		if o, e := bits.OneHot(c.index, c.width); o != (api.Bits{}) || e != c.want {
			t.Errorf("OneHot(%d, %d): %v, %d, not %d", c.index, c.width, o, e, c.want)
		}
	}
}

// P1.7
func TestIndexOf(t *testing.T) {
	if i, e := bits.IndexOf(of(4, 0b0100)); i != 2 || e != api.OK {
		t.Errorf("IndexOf(4'b0100): %d, %d", i, e)
	}
	eachValue(func(a api.Bits) {
		want, ones := 0, 0
		for i, d := range digits(a) {
			ones += d
			want += i * d
		}
		wantError := api.OK
		if ones != 1 {
			want, wantError = 0, api.ErrForm
		}
		if i, e := bits.IndexOf(a); i != want || e != wantError {
			t.Errorf("IndexOf(%v): %d, %d, not %d, %d", a, i, e, want, wantError)
		}
	})
}

// orders are all orders of the numbers below n.
func orders(n int) [][]int {
	if n == 0 {
		return [][]int{{}}
	}
	var l [][]int
	for _, shorter := range orders(n - 1) {
		for at := range n {
			l = append(l, slices.Insert(slices.Clone(shorter), at, n-1))
		}
	}
	return l
}

// P1.7
func TestPermuted(t *testing.T) {
	for width := 1; width <= 5; width++ {
		for _, order := range orders(width) {
			for _, a := range someValues(width) {
				checkPermuted(t, a, order)
			}
		}
	}
	for width := 6; width <= api.MaxWidth; width++ {
		order := make([]int, width)
		for i := range order {
			order[i] = (i*(width-1) + 3) % width
		}
		for _, a := range someValues(width) {
			checkPermuted(t, a, order)
		}
	}
	if p, e := bits.Permuted(of(4, 0b1100), []int{3, 2, 1, 0}); p != of(4, 0b0011) || e != api.OK {
		t.Errorf("Permuted 4'b1100: %v, %d", p, e)
	}
	// This order is not its own reverse, so that it tells the two directions apart.
	if p, e := bits.Permuted(of(3, 0b001), []int{2, 0, 1}); p != of(3, 0b010) || e != api.OK {
		t.Errorf("Permuted 3'b001: %v, %d", p, e)
	}
}

func checkPermuted(t *testing.T, a api.Bits, order []int) {
	t.Helper()
	l := make([]int, a.Width)
	for i, from := range order {
		l[i] = digits(a)[from]
	}
	before := slices.Clone(order)
	if p, e := bits.Permuted(a, order); p != fromDigits(l) || e != api.OK {
		t.Errorf("Permuted(%v, %v): %v, %d, not %v", a, order, p, e, fromDigits(l))
	}
	if !slices.Equal(order, before) {
		t.Errorf("Permuted(%v, %v) modified its order", a, before)
	}
}

// P1.7
func TestPermutedErrors(t *testing.T) {
	cases := []struct {
		a     api.Bits
		order []int
		want  api.Errno
	}{
		{wrongWidth, nil, api.ErrWidth},
		{wrongValue, nil, api.ErrRange},
		{wrongValue, []int{4, 4, 4, 4}, api.ErrRange},
		{of(4, 1), nil, api.ErrShape},
		{of(4, 1), []int{}, api.ErrShape},
		{of(4, 1), []int{0, 1, 2}, api.ErrShape},
		{of(4, 1), []int{0, 1, 2, 3, 3}, api.ErrShape},
		{of(4, 1), []int{7, 7, 7}, api.ErrShape},
		{of(4, 1), []int{0, 1, 2, 4}, api.ErrMissing},
		{of(4, 1), []int{-1, 1, 2, 3}, api.ErrMissing},
		{of(4, 1), []int{4, 4, 2, 3}, api.ErrMissing},
		{of(4, 1), []int{0, 4, 0, 1}, api.ErrMissing},
		{of(4, 1), []int{0, 0, 4, 1}, api.ErrDouble},
		{of(4, 1), []int{0, 1, 2, 0}, api.ErrDouble},
		{of(4, 1), []int{3, 3, 3, 3}, api.ErrDouble},
		{of(1, 1), []int{1}, api.ErrMissing},
		{of(16, 1), []int{0, 1, 2, 3, 4, 5, 6, 7, 8, 9, 10, 11, 12, 13, 14, 16}, api.ErrMissing},
		{of(16, 1), []int{0, 1, 2, 3, 4, 5, 6, 7, 8, 9, 10, 11, 12, 13, 14, 14}, api.ErrDouble},
	}
	for i, c := range cases {
		if p, e := bits.Permuted(c.a, c.order); p != (api.Bits{}) || e != c.want {
			t.Errorf("case %d: %v, %d, not %d", i, p, e, c.want)
		}
	}
}

// P1.8, P1.12: FromSigned reverses SignedOf.
func TestSigned(t *testing.T) {
	eachValue(func(a api.Bits) {
		n, e := bits.SignedOf(a)
		if n != signedByHand(a) || e != api.OK {
			t.Errorf("SignedOf(%v): %d, %d, not %d", a, n, e, signedByHand(a))
		}
		if back, e := bits.FromSigned(n, a.Width); back != a || e != api.OK {
			t.Errorf("FromSigned(%d, %d): %v, %d, not %v", n, a.Width, back, e, a)
		}
	})
}

// P1.8: the example, and the edge case of one bit.
func TestSignedExamples(t *testing.T) {
	for a, want := range map[api.Bits]int{
		of(4, 0b1100): -4,
		of(1, 1):      -1,
		of(1, 0):      0,
		of(4, 8):      -8,
		of(4, 7):      7,
		of(16, 32768): -32768,
		of(16, 65535): -1,
	} {
		if n, e := bits.SignedOf(a); n != want || e != api.OK {
			t.Errorf("SignedOf(%v): %d, %d, not %d", a, n, e, want)
		}
		if b, e := bits.FromSigned(want, a.Width); b != a || e != api.OK {
			t.Errorf("FromSigned(%d, %d): %v, %d, not %v", want, a.Width, b, e, a)
		}
	}
}

// P1.8
func TestFromSignedErrors(t *testing.T) {
	for _, n := range extremes {
		for _, width := range extremes {
			want := api.OK
			if width < 1 || width > api.MaxWidth {
				want = api.ErrWidth
			} else if n < -power(width-1) || n >= power(width-1) {
				want = api.ErrRange
			}
			if b, e := bits.FromSigned(n, width); e != want || e != api.OK && b != (api.Bits{}) {
				t.Errorf("FromSigned(%d, %d): %v, %d, not %d", n, width, b, e, want)
			}
		}
	}
	for width := 1; width <= api.MaxWidth; width++ {
		half := power(width - 1)
		for n, want := range map[int]api.Errno{-half - 1: api.ErrRange, -half: api.OK, half - 1: api.OK, half: api.ErrRange} {
			if b, e := bits.FromSigned(n, width); e != want {
				t.Errorf("FromSigned(%d, %d): %v, %d, not %d", n, width, b, e, want)
			}
		}
	}
}
