package bits_test

import (
	"math"
	"testing"

	"ratchet/api"
	"ratchet/bits"
)

// Values with one error each, for calls with several errors.
var (
	wrongWidth = api.Bits{Width: 0, Value: 0}
	wrongValue = api.Bits{Width: 4, Value: 16}
)

// extremes are numbers at which careless arithmetic panics or wraps around.
var extremes = []int{math.MinInt, math.MinInt + 1, math.MinInt32, -65536, -17, -16, -2, -1, 0, 1, 2, 15, 16, 17, 31, 32, 33, 63, 64, 65, 65535, 65536, math.MaxInt32, math.MaxInt - 1, math.MaxInt}

func of(width, value int) api.Bits { return api.Bits{Width: width, Value: value} }

// power is 2 to the power n, without shifts.
func power(n int) int {
	p := 1
	for range n {
		p *= 2
	}
	return p
}

// digits are the bits of a value, the lowest one first.
func digits(x api.Bits) []int {
	l := make([]int, x.Width)
	rest := x.Value
	for i := range l {
		l[i] = rest % 2
		rest /= 2
	}
	return l
}

// fromDigits is the value of bits, the lowest one first.
func fromDigits(l []int) api.Bits {
	x := api.Bits{Width: len(l)}
	for i, d := range l {
		x.Value += d * power(i)
	}
	return x
}

// signedByHand is a value as a two's complement.
func signedByHand(x api.Bits) int {
	if x.Value >= power(x.Width-1) {
		return x.Value - power(x.Width)
	}
	return x.Value
}

// someValues are all values of narrow widths, and those at the edges of wide ones with some in between.
func someValues(width int) []api.Bits {
	var l []api.Bits
	step := 1
	if width > 6 {
		step = power(width)/23 - 1
	}
	for v := 0; v < power(width); v += step {
		l = append(l, of(width, v))
	}
	if width > 6 {
		half, top := power(width-1), power(width)
		for _, v := range []int{1, 2, half - 1, half, half + 1, top - 2, top - 1} {
			l = append(l, of(width, v))
		}
	}
	return l
}

// eachValue visits someValues of all widths.
func eachValue(visit func(x api.Bits)) {
	for width := 1; width <= api.MaxWidth; width++ {
		for _, x := range someValues(width) {
			visit(x)
		}
	}
}

// eachPair visits all pairs of values of one width.
func eachPair(visit func(a, b api.Bits)) {
	for width := 1; width <= api.MaxWidth; width++ {
		l := someValues(width)
		for _, a := range l {
			for _, b := range l {
				visit(a, b)
			}
		}
	}
}

// badValues are values with the errors that they have.
var badValues = []struct {
	x    api.Bits
	want api.Errno
}{
	{of(0, 0), api.ErrWidth},
	{of(-1, 0), api.ErrWidth},
	{of(17, 0), api.ErrWidth},
	{of(17, -1), api.ErrWidth},
	{of(0, 5), api.ErrWidth},
	{of(64, 1), api.ErrWidth},
	{of(math.MinInt, math.MinInt), api.ErrWidth},
	{of(math.MaxInt, math.MaxInt), api.ErrWidth},
	{of(1, 2), api.ErrRange},
	{of(1, -1), api.ErrRange},
	{of(4, 16), api.ErrRange},
	{of(4, -1), api.ErrRange},
	{of(16, 65536), api.ErrRange},
	{of(16, math.MaxInt), api.ErrRange},
	{of(16, math.MinInt), api.ErrRange},
}

// P1.1
func TestCheckBits(t *testing.T) {
	for _, c := range badValues {
		if e := bits.CheckBits(c.x); e != c.want {
			t.Errorf("CheckBits(%v) is %d, not %d", c.x, e, c.want)
		}
	}
	eachValue(func(x api.Bits) {
		if e := bits.CheckBits(x); e != api.OK {
			t.Errorf("CheckBits(%v) is %d", x, e)
		}
	})
	for width := 1; width <= api.MaxWidth; width++ {
		for value, want := range map[int]api.Errno{-1: api.ErrRange, 0: api.OK, power(width) - 1: api.OK, power(width): api.ErrRange} {
			if e := bits.CheckBits(of(width, value)); e != want {
				t.Errorf("CheckBits of %d with %d bits is %d, not %d", value, width, e, want)
			}
		}
	}
}

// P1.2 to P1.9: the error of a value is that of CheckBits, and every other result is zero beside it.
func TestErrorOfValue(t *testing.T) {
	good, none := of(4, 9), api.Bits{}
	calls := map[string]func(x api.Bits) (any, any, api.Errno){
		"AddWith of a":   func(x api.Bits) (any, any, api.Errno) { s, e := bits.AddWith(x, good, 0); return s, api.BitsSum{}, e },
		"AddWith of b":   func(x api.Bits) (any, any, api.Errno) { s, e := bits.AddWith(good, x, 0); return s, api.BitsSum{}, e },
		"SubWith of a":   func(x api.Bits) (any, any, api.Errno) { s, e := bits.SubWith(x, good, 0); return s, api.BitsSum{}, e },
		"SubWith of b":   func(x api.Bits) (any, any, api.Errno) { s, e := bits.SubWith(good, x, 0); return s, api.BitsSum{}, e },
		"MulWide of a":   func(x api.Bits) (any, any, api.Errno) { m, e := bits.MulWide(x, good); return m, none, e },
		"MulWide of b":   func(x api.Bits) (any, any, api.Errno) { m, e := bits.MulWide(good, x); return m, none, e },
		"Shifted":        func(x api.Bits) (any, any, api.Errno) { s, e := bits.Shifted(x, 0, 1); return s, none, e },
		"FieldOf":        func(x api.Bits) (any, any, api.Errno) { f, e := bits.FieldOf(x, 0, 1); return f, none, e },
		"WithField of a": func(x api.Bits) (any, any, api.Errno) { w, e := bits.WithField(x, 0, good); return w, none, e },
		"WithField of b": func(x api.Bits) (any, any, api.Errno) { w, e := bits.WithField(good, 0, x); return w, none, e },
		"Joined":         func(x api.Bits) (any, any, api.Errno) { j, e := bits.Joined([]api.Bits{good, x}); return j, none, e },
		"CountsOf":       func(x api.Bits) (any, any, api.Errno) { n, e := bits.CountsOf(x); return n, api.BitsCounts{}, e },
		"GrayOf":         func(x api.Bits) (any, any, api.Errno) { g, e := bits.GrayOf(x); return g, none, e },
		"FromGray":       func(x api.Bits) (any, any, api.Errno) { g, e := bits.FromGray(x); return g, none, e },
		"IndexOf":        func(x api.Bits) (any, any, api.Errno) { i, e := bits.IndexOf(x); return i, 0, e },
		"Permuted": func(x api.Bits) (any, any, api.Errno) {
			p, e := bits.Permuted(x, []int{0, 1, 2, 3})
			return p, none, e
		},
		"SignedOf":   func(x api.Bits) (any, any, api.Errno) { n, e := bits.SignedOf(x); return n, 0, e },
		"FormatBits": func(x api.Bits) (any, any, api.Errno) { s, e := bits.FormatBits(x, 2); return s, "", e },
		"DivMod of a": func(x api.Bits) (any, any, api.Errno) {
			q, r, e := bits.DivMod(x, good)
			return [2]api.Bits{q, r}, [2]api.Bits{}, e
		},
		"DivMod of b": func(x api.Bits) (any, any, api.Errno) {
			q, r, e := bits.DivMod(good, x)
			return [2]api.Bits{q, r}, [2]api.Bits{}, e
		},
	}
	for name, call := range calls {
		for _, c := range badValues {
			if got, zero, e := call(c.x); e != c.want || got != zero {
				t.Errorf("%s with %v: %v, %d, not %d", name, c.x, got, e, c.want)
			}
		}
	}
}

// R2 (every call returns), R1 (zero beside an error), R4 (the same again).
func TestExtremes(t *testing.T) {
	check := func(name string, e api.Errno, zero, same bool) {
		if e != api.OK && !zero || !same {
			t.Errorf("%s: error %d, zero %t, the same again %t", name, e, zero, same)
		}
	}
	for _, m := range extremes {
		for _, n := range extremes {
			x := of(m, n)
			check("CheckBits", bits.CheckBits(x), true, bits.CheckBits(x) == bits.CheckBits(x))
			h, e := bits.OneHot(m, n)
			h2, e2 := bits.OneHot(m, n)
			check("OneHot", e, h == api.Bits{}, h == h2 && e == e2)
			f, e := bits.FromSigned(m, n)
			f2, e2 := bits.FromSigned(m, n)
			check("FromSigned", e, f == api.Bits{}, f == f2 && e == e2)
			s, e := bits.Shifted(of(9, 300), m, n)
			s2, e2 := bits.Shifted(of(9, 300), m, n)
			check("Shifted", e, s == api.Bits{}, s == s2 && e == e2)
			d, e := bits.FieldOf(of(9, 300), m, n)
			d2, e2 := bits.FieldOf(of(9, 300), m, n)
			check("FieldOf", e, d == api.Bits{}, d == d2 && e == e2)
			w, e := bits.WithField(of(9, 300), m, x)
			w2, e2 := bits.WithField(of(9, 300), m, x)
			check("WithField", e, w == api.Bits{}, w == w2 && e == e2)
			p, e := bits.Permuted(of(2, 1), []int{m, n})
			p2, e2 := bits.Permuted(of(2, 1), []int{m, n})
			check("Permuted", e, p == api.Bits{}, p == p2 && e == e2)
			a, e := bits.AddWith(x, of(n, m), m)
			check("AddWith", e, a == api.BitsSum{}, true)
			a, e = bits.SubWith(of(n, m), x, n)
			check("SubWith", e, a == api.BitsSum{}, true)
			u, e := bits.MulWide(x, of(n, m))
			check("MulWide", e, u == api.Bits{}, true)
			q, r, e := bits.DivMod(x, of(m, 0))
			check("DivMod", e, q == api.Bits{} && r == api.Bits{}, true)
			j, e := bits.Joined([]api.Bits{x, x})
			check("Joined", e, j == api.Bits{}, true)
			k, e := bits.FormatBits(of(4, 4), m)
			check("FormatBits", e, k == "", true)
		}
	}
}
