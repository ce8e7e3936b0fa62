package bits_test

import (
	"testing"

	"ratchet/api"
	"ratchet/bits"
)

func flagOf(set bool) int {
	if set {
		return 1
	}
	return 0
}

// sumByHand adds (sign 1) or subtracts (sign -1) as the definitions say.
func sumByHand(a, b api.Bits, carry, sign int) api.BitsSum {
	exact := a.Value + sign*(b.Value+carry)
	all := power(a.Width)
	r := of(a.Width, (exact+2*all)%all)
	lost := exact >= all
	if sign < 0 {
		lost = exact < 0
	}
	exactSigned := signedByHand(a) + sign*(signedByHand(b)+carry)
	return api.BitsSum{
		Sum:      r,
		Carry:    flagOf(lost),
		Overflow: flagOf(exactSigned != signedByHand(r)),
		Zero:     flagOf(r.Value == 0),
		Negative: flagOf(r.Value >= power(a.Width-1)),
	}
}

// P1.2
func TestSums(t *testing.T) {
	eachPair(func(a, b api.Bits) {
		for carry := range 2 {
			if s, e := bits.AddWith(a, b, carry); s != sumByHand(a, b, carry, 1) || e != api.OK {
				t.Errorf("AddWith(%v, %v, %d): %v, %d", a, b, carry, s, e)
			}
			if s, e := bits.SubWith(a, b, carry); s != sumByHand(a, b, carry, -1) || e != api.OK {
				t.Errorf("SubWith(%v, %v, %d): %v, %d", a, b, carry, s, e)
			}
		}
	})
}

// P1.2: the examples, and the edge case of an overflow.
func TestSumExamples(t *testing.T) {
	adding, subtracting := bits.AddWith, bits.SubWith
	cases := []struct {
		call  func(a, b api.Bits, carry int) (api.BitsSum, api.Errno)
		a, b  api.Bits
		carry int
		want  api.BitsSum
	}{
		{adding, of(8, 255), of(8, 1), 0, api.BitsSum{Sum: of(8, 0), Carry: 1, Zero: 1}},
		{adding, of(4, 7), of(4, 1), 0, api.BitsSum{Sum: of(4, 8), Overflow: 1, Negative: 1}},
		{adding, of(4, 7), of(4, 0), 1, api.BitsSum{Sum: of(4, 8), Overflow: 1, Negative: 1}},
		{adding, of(4, 15), of(4, 0), 1, api.BitsSum{Sum: of(4, 0), Carry: 1, Zero: 1}},
		{adding, of(4, 8), of(4, 8), 0, api.BitsSum{Sum: of(4, 0), Carry: 1, Overflow: 1, Zero: 1}},
		{adding, of(4, 15), of(4, 15), 1, api.BitsSum{Sum: of(4, 15), Carry: 1, Negative: 1}},
		{adding, of(1, 0), of(1, 0), 1, api.BitsSum{Sum: of(1, 1), Overflow: 1, Negative: 1}},
		{adding, of(1, 1), of(1, 1), 0, api.BitsSum{Sum: of(1, 0), Carry: 1, Overflow: 1, Zero: 1}},
		{adding, of(16, 65535), of(16, 65535), 1, api.BitsSum{Sum: of(16, 65535), Carry: 1, Negative: 1}},
		{adding, of(16, 32767), of(16, 1), 0, api.BitsSum{Sum: of(16, 32768), Overflow: 1, Negative: 1}},
		{subtracting, of(4, 2), of(4, 5), 0, api.BitsSum{Sum: of(4, 13), Carry: 1, Negative: 1}},
		{subtracting, of(4, 8), of(4, 1), 0, api.BitsSum{Sum: of(4, 7), Overflow: 1}},
		{subtracting, of(4, 8), of(4, 0), 1, api.BitsSum{Sum: of(4, 7), Overflow: 1}},
		{subtracting, of(4, 5), of(4, 5), 0, api.BitsSum{Sum: of(4, 0), Zero: 1}},
		{subtracting, of(4, 5), of(4, 5), 1, api.BitsSum{Sum: of(4, 15), Carry: 1, Negative: 1}},
		{subtracting, of(4, 5), of(4, 4), 1, api.BitsSum{Sum: of(4, 0), Zero: 1}},
		{subtracting, of(4, 0), of(4, 15), 1, api.BitsSum{Sum: of(4, 0), Carry: 1, Zero: 1}},
		{subtracting, of(16, 32768), of(16, 1), 0, api.BitsSum{Sum: of(16, 32767), Overflow: 1}},
	}
	for i, c := range cases {
		if s, e := c.call(c.a, c.b, c.carry); s != c.want || e != api.OK {
			t.Errorf("case %d: %v, %d, not %v", i, s, e, c.want)
		}
	}
}

// P1.2: the errors, in their order.
func TestSumErrors(t *testing.T) {
	good, wide := of(4, 9), of(5, 9)
	cases := []struct {
		a, b  api.Bits
		carry int
		want  api.Errno
	}{
		{wrongWidth, wrongValue, 2, api.ErrWidth},
		{wrongValue, wrongWidth, 2, api.ErrRange},
		{wrongValue, wide, 0, api.ErrRange},
		{good, of(5, 32), 0, api.ErrRange},
		{good, wide, 2, api.ErrWidth},
		{good, wide, 0, api.ErrWidth},
		{wide, good, 1, api.ErrWidth},
		{good, good, 2, api.ErrRange},
		{good, good, -1, api.ErrRange},
	}
	for _, n := range extremes {
		if n != 0 && n != 1 {
			cases = append(cases, struct {
				a, b  api.Bits
				carry int
				want  api.Errno
			}{good, good, n, api.ErrRange})
		}
	}
	for i, c := range cases {
		if s, e := bits.AddWith(c.a, c.b, c.carry); s != (api.BitsSum{}) || e != c.want {
			t.Errorf("AddWith, case %d: %v, %d, not %d", i, s, e, c.want)
		}
		if s, e := bits.SubWith(c.a, c.b, c.carry); s != (api.BitsSum{}) || e != c.want {
			t.Errorf("SubWith, case %d: %v, %d, not %d", i, s, e, c.want)
		}
	}
}

// P1.3
func TestMulWide(t *testing.T) {
	for m := 1; m < api.MaxWidth; m++ {
		for n := 1; m+n <= api.MaxWidth; n++ {
			for _, a := range someValues(m) {
				for _, b := range someValues(n) {
					if p, e := bits.MulWide(a, b); p != of(m+n, a.Value*b.Value) || e != api.OK {
						t.Fatalf("MulWide(%v, %v): %v, %d", a, b, p, e)
					}
				}
			}
		}
	}
	if p, e := bits.MulWide(of(4, 9), of(4, 5)); p != of(8, 45) || e != api.OK {
		t.Errorf("9 times 5: %v, %d", p, e)
	}
}

// P1.3
func TestMulWideErrors(t *testing.T) {
	cases := []struct {
		a, b api.Bits
		want api.Errno
	}{
		{wrongWidth, wrongValue, api.ErrWidth},
		{wrongValue, wrongWidth, api.ErrRange},
		{of(16, 65536), of(16, 1), api.ErrRange},
		{of(16, 1), of(16, 65536), api.ErrRange},
		{of(16, 1), of(17, 1), api.ErrWidth},
		{of(8, 1), of(9, 1), api.ErrLarge},
		{of(9, 1), of(8, 1), api.ErrLarge},
		{of(16, 0), of(1, 0), api.ErrLarge},
		{of(16, 65535), of(16, 65535), api.ErrLarge},
	}
	for i, c := range cases {
		if p, e := bits.MulWide(c.a, c.b); p != (api.Bits{}) || e != c.want {
			t.Errorf("case %d: %v, %d, not %d", i, p, e, c.want)
		}
	}
}

// P1.3
func TestDivModExamples(t *testing.T) {
	cases := []struct{ a, b, quotient, rest api.Bits }{
		{of(4, 13), of(4, 5), of(4, 2), of(4, 3)},
		{of(4, 5), of(4, 13), of(4, 0), of(4, 5)},
		{of(4, 15), of(4, 5), of(4, 3), of(4, 0)},
		{of(4, 0), of(4, 5), of(4, 0), of(4, 0)},
		{of(1, 1), of(1, 1), of(1, 1), of(1, 0)},
		{of(16, 65535), of(16, 1), of(16, 65535), of(16, 0)},
		{of(16, 65535), of(16, 256), of(16, 255), of(16, 255)},
	}
	for i, c := range cases {
		if q, r, e := bits.DivMod(c.a, c.b); q != c.quotient || r != c.rest || e != api.OK {
			t.Errorf("case %d: %v, %v, %d", i, q, r, e)
		}
	}
}

// P1.3
func TestDivModErrors(t *testing.T) {
	cases := []struct {
		a, b api.Bits
		want api.Errno
	}{
		{wrongWidth, wrongValue, api.ErrWidth},
		{wrongValue, wrongWidth, api.ErrRange},
		{of(4, 16), of(5, 0), api.ErrRange},
		{of(4, 1), of(5, 0), api.ErrWidth},
		{of(5, 1), of(4, 1), api.ErrWidth},
		{of(4, 1), of(4, 0), api.ErrZero},
		{of(16, 0), of(16, 0), api.ErrZero},
	}
	for i, c := range cases {
		if q, r, e := bits.DivMod(c.a, c.b); q != (api.Bits{}) || r != (api.Bits{}) || e != c.want {
			t.Errorf("case %d: %v, %v, %d, not %d", i, q, r, e, c.want)
		}
	}
}

// P1.10
func TestSumsAndDifferences(t *testing.T) {
	eachPair(func(a, b api.Bits) {
		for carry := range 2 {
			sum, _ := bits.AddWith(a, b, carry)
			if back, e := bits.SubWith(sum.Sum, b, carry); back.Sum != a || e != api.OK {
				t.Errorf("(%v + %v + %d) less these is %v, %d", a, b, carry, back.Sum, e)
			}
		}
		inverted := of(b.Width, power(b.Width)-1-b.Value)
		sum, e := bits.AddWith(a, inverted, 1)
		if e != api.OK {
			t.Errorf("AddWith(%v, %v, 1): %d", a, inverted, e)
		}
		difference, _ := bits.SubWith(a, b, 0)
		sum.Carry = 1 - sum.Carry
		if sum != difference {
			t.Errorf("%v with inverted %v is %v, not %v", a, b, sum, difference)
		}
	})
}

// P1.11 (and P1.3: these determine the quotient and the remainder)
func TestQuotients(t *testing.T) {
	eachPair(func(a, b api.Bits) {
		if b.Value == 0 {
			return
		}
		q, r, e := bits.DivMod(a, b)
		if q.Value*b.Value+r.Value != a.Value || r.Value < 0 || r.Value >= b.Value || q.Width != a.Width || r.Width != a.Width || e != api.OK {
			t.Errorf("DivMod(%v, %v): %v, %v, %d", a, b, q, r, e)
		}
	})
}
