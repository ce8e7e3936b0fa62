package cnf_test

import (
	"fmt"
	"math"
	"strings"
	"testing"

	"ratchet/api"
	"ratchet/cnf"
)

// formatByHand is the string of a formula.
func formatByHand(f api.CnfFormula) string {
	parts := []string{fmt.Sprint(f.Vars)}
	for _, literals := range f.Clauses {
		words := append([]int{}, literals...)
		words = append(words, 0)
		parts = append(parts, strings.Trim(fmt.Sprint(words), "[]"))
	}
	return strings.Join(parts, ";")
}

// P3.7, P3.13: there and back.
func TestFormatAndParse(t *testing.T) {
	check := func(f api.CnfFormula) {
		want := formatByHand(f)
		s := cnf.FormatFormula(f)
		if s != want {
			t.Errorf("%v: %q, not %q", f, s, want)
		}
		if g, e := cnf.ParseFormula(s); !sameFormula(g, f) || e != api.OK {
			t.Errorf("%q: %v, %d, not %v", s, g, e, f)
		}
	}
	eachFormula(func(d *dice, f api.CnfFormula) { check(f) })
	d := &dice{state: 9}
	check(d.formula(1000, 4000, 1))
	check(d.formula(1000, 900, 12))
	check(formula(1000, upTo(989, 1000), negative(1000, 1000)))
}

// P3.7: formulas that are not valid have strings, too.
func TestFormatExamples(t *testing.T) {
	cases := []struct {
		f    api.CnfFormula
		want string
	}{
		{example(), "3;1 2 0;-1 3 0;-2 3 0;-3 0"},
		{formula(0), "0"},
		{formula(2, clause()), "2;0"},
		{formula(2, nil, clause()), "2;0;0"},
		{formula(-5, clause(7, 7, -7)), "-5;7 7 -7 0"},
		{formula(1, clause(0, 0)), "1;0 0 0"},
		{formula(math.MaxInt, clause(math.MinInt)), "9223372036854775807;-9223372036854775808 0"},
	}
	for _, c := range cases {
		if s := cnf.FormatFormula(c.f); s != c.want {
			t.Errorf("%v: %q, not %q", c.f, s, c.want)
		}
	}
}

// P3.7: strings that are malformed, whatever is wrong in their formulas.
func TestParseSyntax(t *testing.T) {
	malformed := []string{
		"", " ", ";", ";0", ";1 0", "0;", "2;", "2;1 0;", ";2;1 0", "2;;1 0", "2;1 0;;", "2; 0", "2;0 ", "2;1  0", "2; 1 0", "2;1 0 ", " 2;1 0", "2 ;1 0", "2\n;1 0", "2;1 0\n", "2;1\t0", "2,1 0",
		"2;1", "2;1 2", "2;1 0 2", "2;1 0 2 0", "2;0 0", "2;0 1 0", "2;1 0 0", "2;1 00", "2;1 -0", "2;-0", "2;-0 0", "2;1 -0 0", "2;1 +0",
		"-2", "-2;1 0", "+2", "+2;1 0", "-0", "00", "02", "02;1 0", "2;01 0", "2;-01 0", "2;+1 0", "2;--1 0", "2;- 0", "2;1- 0", "2;- 1 0", "2;-", "-", "x", "2;x 0", "2;1 x", "2;1x 0", "0x2", "2;0x1 0", "1e1", "2.0", "1_0",
		"10000", "99999", "00001", "2;10000 0", "2;-10000 0", "2;99999999999999999999 0", "99999999999999999999", "2;1 00000",
		"2;1 0;3 1", "1001;2 1 0;x", "2;5 0;1", "2;2 1 0;", "2;\xd9\xa3 0", "\xef\xbc\x92", "2;1 0\x00", "\x00", "2 1 0", "2 0",
	}
	for _, s := range malformed {
		if f, e := cnf.ParseFormula(s); f.Vars != 0 || len(f.Clauses) > 0 || e != api.ErrSyntax {
			t.Errorf("%q: %v, %d", s, f, e)
		}
	}
}

// P3.7: strings that are well formed, whatever is wrong in their formulas.
func TestParseExamples(t *testing.T) {
	cases := []struct {
		s    string
		f    api.CnfFormula
		want api.Errno
	}{
		{"3;1 2 0;-1 3 0;-2 3 0;-3 0", example(), api.OK},
		{"0", formula(0), api.OK},
		{"1000", formula(1000), api.OK},
		{"0;0", formula(0, clause()), api.OK},
		{"2;0;0;-2 0", formula(2, clause(), clause(), clause(-2)), api.OK},
		{"1000;-999 1000 0", formula(1000, clause(-999, 1000)), api.OK},
		{"1001", formula(0), api.ErrRange},
		{"9999;0", formula(0), api.ErrRange},
		{"2;3 0", formula(0), api.ErrRange},
		{"2;-9999 0", formula(0), api.ErrRange},
		{"0;1 0", formula(0), api.ErrRange},
		{"2;2 1 0", formula(0), api.ErrOrder},
		{"2;1 -1 0", formula(0), api.ErrOrder},
		{"13;1 2 3 4 5 6 7 8 9 10 11 12 13 0", formula(0), api.ErrLarge},
		{"13;2 1 0;1 2 3 4 5 6 7 8 9 10 11 12 13 0", formula(0), api.ErrOrder},
	}
	for _, c := range cases {
		if f, e := cnf.ParseFormula(c.s); !sameFormula(f, c.f) || e != c.want {
			t.Errorf("%q: %v, %d, not %v, %d", c.s, f, e, c.f, c.want)
		}
	}
}

// P3.7: long strings.
func TestParseLarge(t *testing.T) {
	cases := []struct {
		name string
		s    string
		want api.Errno
	}{
		{"the most clauses", "1" + strings.Repeat(";1 0", 4000), api.OK},
		{"too many clauses", "1" + strings.Repeat(";1 0", 4001), api.ErrLarge},
		{"too many clauses, but malformed", "1" + strings.Repeat(";1 0", 4001) + ";", api.ErrSyntax},
		{"too many clauses, but too many variables", "1001" + strings.Repeat(";1 0", 4001), api.ErrRange},
		{"the longest string", "100" + strings.Repeat(";-1 3 0", 3000) + strings.Repeat(";-1 2 3 4 5 6 7 8 9 100 0", 1559) + ";1 2 3 4 5 6 0", api.ErrLarge},
		{"the longest string that is malformed", strings.Repeat("1", 60000), api.ErrSyntax},
		{"too long", strings.Repeat("1", 60001), api.ErrLarge},
		{"too long, but well formed", "1000;" + strings.Repeat("1 ", 30000) + "0", api.ErrLarge},
	}
	for _, c := range cases {
		if f, e := cnf.ParseFormula(c.s); e != c.want || e != api.OK && (f.Vars != 0 || len(f.Clauses) > 0) {
			t.Errorf("%s, %d bytes: %d, not %d", c.name, len(c.s), e, c.want)
		}
	}
}

// P3.7, R2: strings with a byte changed, left out or added, which are malformed or the strings of what they are parsed to.
func TestParseAny(t *testing.T) {
	const bytes = "0123456789 ;-+x\x00\xff"
	s := "12;-1 2 0;0;3 -10 12 0"
	check := func(changed string) {
		f, e := cnf.ParseFormula(changed)
		if e != api.OK && (f.Vars != 0 || len(f.Clauses) > 0) {
			t.Errorf("%q: an error %d and %v", changed, e, f)
		}
		if e == api.OK && cnf.FormatFormula(f) != changed {
			t.Errorf("%q is the string of %q", changed, cnf.FormatFormula(f))
		}
	}
	for i := range len(s) + 1 {
		for _, b := range []byte(bytes) {
			check(s[:i] + string([]byte{b}) + s[i:])
			if i < len(s) {
				check(s[:i] + string([]byte{b}) + s[i+1:])
				check(s[:i] + s[i+1:])
			}
		}
	}
}
