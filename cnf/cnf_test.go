package cnf_test

import (
	"math"
	"reflect"
	"slices"
	"testing"

	"ratchet/api"
	"ratchet/cnf"
)

// P3.1: what is wrong in a formula.
func TestCheckFormula(t *testing.T) {
	cases := []struct {
		name  string
		f     api.CnfFormula
		index int
		want  api.Errno
	}{
		{"nothing", formula(0), 0, api.OK},
		{"the example", example(), 0, api.OK},
		{"the empty clause", formula(0, clause()), 0, api.OK},
		{"variables without clauses", formula(1000), 0, api.OK},
		{"the last variable", formula(1000, clause(-1000), clause(1000)), 0, api.OK},
		{"negative variables", formula(-1), 0, api.ErrRange},
		{"too many variables", formula(1001), 0, api.ErrRange},
		{"too many variables before too many clauses", formula(1001, many(4001)...), 0, api.ErrRange},
		{"the most clauses", formula(1, many(4000, 1)...), 0, api.OK},
		{"too many clauses", formula(1, many(4001, 1)...), 0, api.ErrLarge},
		{"too many clauses before a wrong one", formula(1, many(4001, 2)...), 0, api.ErrLarge},
		{"the most literals", formula(12, upTo(1, 12)), 0, api.OK},
		{"too many literals", formula(13, clause(1), upTo(1, 13)), 1, api.ErrLarge},
		{"too many literals before a wrong one", formula(3, clause(1), upTo(-1, 13)), 1, api.ErrLarge},
		{"the literal 0", formula(3, clause(1), clause(2), clause(0)), 2, api.ErrRange},
		{"a literal too great", formula(3, clause(1, 4)), 0, api.ErrRange},
		{"a literal too small", formula(3, clause(1), clause(-4)), 1, api.ErrRange},
		{"a literal without variables", formula(0, clause(), clause(1)), 1, api.ErrRange},
		{"the least number", formula(3, clause(math.MinInt)), 0, api.ErrRange},
		{"the same literal twice", formula(3, clause(), clause(2, 2)), 1, api.ErrOrder},
		{"a literal and its opposite", formula(3, clause(1), clause(1, 2, -2)), 1, api.ErrOrder},
		{"an opposite and its literal", formula(3, clause(-1, 1)), 0, api.ErrOrder},
		{"a smaller variable", formula(3, clause(3, -2)), 0, api.ErrOrder},
		{"a greater variable, a smaller literal", formula(3, clause(2, -3)), 0, api.OK},
		{"a smaller variable, a greater literal", formula(3, clause(-3, 2)), 0, api.ErrOrder},
		{"the wrong order before a wrong literal", formula(3, clause(2, 1, 4)), 0, api.ErrOrder},
		{"a wrong literal before the wrong order", formula(3, clause(2, 4, 1)), 0, api.ErrRange},
		{"a literal that is wrong and in the wrong order", formula(3, clause(2, 0)), 0, api.ErrRange},
		{"the first of two wrong clauses", formula(3, clause(1), clause(2, 1), clause(4)), 1, api.ErrOrder},
	}
	for _, c := range cases {
		if i, e := cnf.CheckFormula(c.f); i != c.index || e != c.want {
			t.Errorf("%s: %d, %d, not %d, %d", c.name, i, e, c.index, c.want)
		}
	}
}

// The formulas of the tests have models or none, and short and long clauses, or they test nothing.
func TestFormulasHaveAll(t *testing.T) {
	satisfied, refuted, free, lengths := 0, 0, 0, [4]int{}
	eachFormula(func(d *dice, f api.CnfFormula) {
		if i, e := cnf.CheckFormula(f); i != 0 || e != api.OK {
			t.Fatalf("%v: %d, %d", f, i, e)
		}
		switch models := len(modelsByHand(f)); {
		case models == 0:
			refuted++
		case models == 1<<f.Vars:
			free++
		default:
			satisfied++
		}
		for _, literals := range f.Clauses {
			lengths[len(literals)]++
		}
	})
	for _, count := range append(lengths[:], satisfied, refuted, free) {
		if count < 20 {
			t.Error(lengths, satisfied, refuted, free)
		}
	}
}

// P3.1: false clauses.
func TestFalseIn(t *testing.T) {
	eachFormula(func(d *dice, f api.CnfFormula) {
		eachSetting(f.Vars, func(model []int) {
			var want []int
			for i, literals := range f.Clauses {
				if !isTrueClause(model, literals) {
					want = append(want, i)
				}
			}
			if l, e := cnf.FalseIn(f, model); !slices.Equal(l, want) || e != api.OK {
				t.Fatalf("%v, %v: %v, %d, not %v", f, model, l, e, want)
			}
		})
	})
}

// P3.1: models that are none.
func TestFalseInErrors(t *testing.T) {
	cases := []struct {
		f     api.CnfFormula
		model []int
		want  api.Errno
	}{
		{example(), []int{0, 1, 1}, api.OK},
		{formula(0, clause()), nil, api.OK},
		{example(), nil, api.ErrShape},
		{example(), []int{0, 1}, api.ErrShape},
		{example(), []int{0, 1, 1, 0}, api.ErrShape},
		{example(), []int{0, 2, 1, 0}, api.ErrShape},
		{example(), []int{0, 2, 1}, api.ErrRange},
		{example(), []int{-1, 0, 1}, api.ErrRange},
		{example(), []int{0, 0, math.MaxInt}, api.ErrRange},
		{formula(2, clause(2, 1)), []int{2}, api.ErrOrder},
	}
	for _, c := range cases {
		if l, e := cnf.FalseIn(c.f, c.model); e != c.want || e != api.OK && len(l) > 0 {
			t.Errorf("%v, %v: %v, %d, not %d", c.f, c.model, l, e, c.want)
		}
	}
}

// call is a function of the chapter: whether all of its results are zero, and its error.
type call func(f api.CnfFormula) (bool, api.Errno)

// formulaCalls are the calls whose first errors are those of the formula. Their other arguments are wrong.
func formulaCalls() map[string]call {
	wrong := []api.CnfStep{{First: -1}}
	return map[string]call{
		"FalseIn": func(f api.CnfFormula) (bool, api.Errno) {
			l, e := cnf.FalseIn(f, make([]int, 1002))
			return len(l) == 0, e
		},
		"Propagated": func(f api.CnfFormula) (bool, api.Errno) {
			l, i, e := cnf.Propagated(f, []int{0})
			return len(l) == 0 && i == 0, e
		},
		"FirstModel": func(f api.CnfFormula) (bool, api.Errno) {
			l, e := cnf.FirstModel(f, -1)
			return len(l) == 0, e
		},
		"StepsFor": func(f api.CnfFormula) (bool, api.Errno) {
			n, e := cnf.StepsFor(f, -1)
			return n == 0, e
		},
		"CountModels": func(f api.CnfFormula) (bool, api.Errno) {
			n, e := cnf.CountModels(f)
			return n == 0, e
		},
		"Under": func(f api.CnfFormula) (bool, api.Errno) {
			g, e := cnf.Under(f, 0)
			return g.Vars == 0 && len(g.Clauses) == 0, e
		},
		"FollowsFrom": func(f api.CnfFormula) (bool, api.Errno) {
			is, e := cnf.FollowsFrom(f, []int{0}, -1)
			return !is, e
		},
		"Resolved": func(f api.CnfFormula) (bool, api.Errno) {
			l, e := cnf.Resolved(f, wrong)
			return len(l) == 0, e
		},
		"CheckProof": func(f api.CnfFormula) (bool, api.Errno) {
			i, e := cnf.CheckProof(f, wrong)
			return i == 0, e
		},
		"Refuted": func(f api.CnfFormula) (bool, api.Errno) {
			l, e := cnf.Refuted(f, -1)
			return len(l) == 0, e
		},
		"CoreOf": func(f api.CnfFormula) (bool, api.Errno) {
			l, e := cnf.CoreOf(f)
			return len(l) == 0, e
		},
	}
}

// P3.1 to P3.6: the errors of the formula come first, and every other result is zero beside them.
func TestErrorOfFormula(t *testing.T) {
	cases := []struct {
		f    api.CnfFormula
		want api.Errno
	}{
		{formula(-1), api.ErrRange},
		{formula(1001), api.ErrRange},
		{formula(17, many(4001, 1)...), api.ErrLarge},
		{formula(17, append(many(12, 1), upTo(1, 13))...), api.ErrLarge},
		{formula(17, append(many(12, 1), clause(0))...), api.ErrRange},
		{formula(17, append(many(12, 1), clause(-18))...), api.ErrRange},
		{formula(17, append(many(12, 1), clause(2, -1))...), api.ErrOrder},
	}
	for name, f := range formulaCalls() {
		for i, c := range cases {
			if zero, e := f(c.f); !zero || e != c.want {
				t.Errorf("%s, case %d: zero %t, %d, not %d", name, i, zero, e, c.want)
			}
		}
	}
}

// P3.3 to P3.5: fuel is from 0 to MaxCnfFuel.
func TestErrorOfFuel(t *testing.T) {
	for _, fuel := range []int{math.MinInt, -1, 0, 20000, 20001, math.MaxInt} {
		want := api.OK
		if fuel < 0 || fuel > api.MaxCnfFuel {
			want = api.ErrRange
		}
		model, e := cnf.FirstModel(formula(1, clause(1)), fuel)
		if e != want || (len(model) == 1) != (want == api.OK) {
			t.Error("FirstModel", fuel, model, e)
		}
		if n, e := cnf.StepsFor(formula(1, clause(1)), fuel); n != 0 || e != want {
			t.Error("StepsFor", fuel, n, e)
		}
		if is, e := cnf.FollowsFrom(formula(1, clause(1)), clause(1), fuel); is != (want == api.OK) || e != want {
			t.Error("FollowsFrom", fuel, is, e)
		}
		proof, e := cnf.Refuted(formula(1, clause(1), clause(-1)), fuel)
		if e != want || (len(proof) == 1) != (want == api.OK) {
			t.Error("Refuted", fuel, proof, e)
		}
	}
}

// R2 (every call returns), R1 (zero beside an error): extreme numbers at every place.
func TestExtremes(t *testing.T) {
	for _, x := range extremes {
		for _, y := range extremes {
			formulas := []api.CnfFormula{formula(x), formula(x, clause(y)), formula(3, clause(x, y)), formula(1000, clause(y, x), clause(), clause(-1)), formula(x, clause(y, x, y), nil)}
			for _, f := range formulas {
				for name, c := range formulaCalls() {
					if zero, e := c(f); e != api.OK && !zero {
						t.Errorf("%s of %v: an error %d and a result", name, f, e)
					}
				}
				if s := cnf.FormatFormula(f); s == "" {
					t.Errorf("%v has no string", f)
				}
			}
			f := example()
			if l, i, e := cnf.Propagated(f, []int{x, y}); e != api.OK && (len(l) > 0 || i != 0) {
				t.Error("Propagated", x, y, l, i, e)
			}
			if is, e := cnf.FollowsFrom(f, []int{x}, y); e != api.OK && is {
				t.Error("FollowsFrom", x, y)
			}
			for _, step := range []api.CnfStep{{First: x, Second: y, Var: 1}, {First: 0, Second: x, Var: y}, {First: x, Second: 1, Var: y}} {
				if i, e := cnf.CheckProof(f, []api.CnfStep{{First: 0, Second: 1, Var: 1}, step}); e == api.OK || i > 1 || i < 0 {
					t.Error("CheckProof", step, i, e)
				}
			}
		}
		if g, e := cnf.Under(example(), x); e != api.OK && (g.Vars != 0 || len(g.Clauses) > 0) {
			t.Error("Under", x, g, e)
		}
	}
}

// R3, R4: no call changes its arguments, its results do not depend on what becomes of earlier ones, and they share no memory.
func TestMemory(t *testing.T) {
	f := formula(4, clause(1, 2), clause(-1, 3), clause(4), clause(-2, 3), clause(-3), clause(3, 4))
	g := formula(4, f.Clauses[0], f.Clauses[1], f.Clauses[3])
	wantF, wantG := copyOf(f), copyOf(g)
	model, assumed, follows := []int{0, 0, 1, 1}, []int{-1, 4}, []int{1, 3}
	proof, _ := cnf.Refuted(f, 10)
	wantProof := slices.Clone(proof)
	numbers := func(l []int, e api.Errno) [][]int { return [][]int{l} }
	calls := map[string]func() [][]int{
		"FalseIn":    func() [][]int { return numbers(cnf.FalseIn(f, model)) },
		"FirstModel": func() [][]int { return numbers(cnf.FirstModel(g, 10)) },
		"CoreOf":     func() [][]int { return numbers(cnf.CoreOf(f)) },
		"Propagated": func() [][]int {
			l, _, _ := cnf.Propagated(f, assumed)
			return [][]int{l}
		},
		"Under": func() [][]int {
			u, _ := cnf.Under(f, 1)
			return u.Clauses
		},
		"Resolved": func() [][]int {
			l, _ := cnf.Resolved(f, proof)
			return l
		},
		"ParseFormula": func() [][]int {
			p, _ := cnf.ParseFormula(cnf.FormatFormula(f))
			return p.Clauses
		},
		"Refuted": func() [][]int {
			p, _ := cnf.Refuted(f, 10)
			var l [][]int
			for _, step := range p {
				l = append(l, []int{step.First, step.Second, step.Var})
			}
			return l
		},
		"FollowsFrom": func() [][]int {
			is, e := cnf.FollowsFrom(g, follows, 10)
			return [][]int{{flag(is), int(e)}}
		},
	}
	for name, c := range calls {
		l := c()
		if len(l) == 0 {
			t.Errorf("%s: no result", name)
		}
		first := copyOf(formula(0, l...)).Clauses
		for i := range l { // also behind the ends of the arguments, up to their capacities
			all := l[i][:cap(l[i])]
			for j := range all {
				all[j] = -7
			}
			for j := i + 1; j < len(l); j++ {
				if !slices.Equal(l[j], first[j]) {
					t.Errorf("%s: the parts %d and %d share memory", name, i, j)
				}
			}
		}
		all := l[:cap(l)]
		for i := range all {
			all[i] = []int{-7}
		}
		if !reflect.DeepEqual(f, wantF) || !reflect.DeepEqual(g, wantG) || !slices.Equal(proof, wantProof) || !slices.Equal(model, []int{0, 0, 1, 1}) || !slices.Equal(assumed, []int{-1, 4}) || !slices.Equal(follows, []int{1, 3}) {
			t.Fatalf("%s: an argument has changed", name)
		}
		if again := c(); !sameClauses(again, first) {
			t.Errorf("%s: another result the second time", name)
		}
	}
}

// R5: nil slices are empty ones.
func TestNil(t *testing.T) {
	var f api.CnfFormula
	empty := formula(0, nil)
	for name, c := range map[string]func() (bool, api.Errno){
		"CheckFormula":  func() (bool, api.Errno) { i, e := cnf.CheckFormula(empty); return i == 0, e },
		"FalseIn":       func() (bool, api.Errno) { l, e := cnf.FalseIn(f, nil); return len(l) == 0, e },
		"Propagated":    func() (bool, api.Errno) { l, i, e := cnf.Propagated(f, nil); return len(l) == 0 && i == -1, e },
		"the conflict":  func() (bool, api.Errno) { l, i, e := cnf.Propagated(empty, nil); return len(l) == 0 && i == 0, e },
		"FirstModel":    func() (bool, api.Errno) { l, e := cnf.FirstModel(f, 0); return len(l) == 0, e },
		"StepsFor":      func() (bool, api.Errno) { n, e := cnf.StepsFor(f, 0); return n == 0, e },
		"CountModels":   func() (bool, api.Errno) { n, e := cnf.CountModels(f); return n == 1, e },
		"no models":     func() (bool, api.Errno) { n, e := cnf.CountModels(empty); return n == 0, e },
		"FollowsFrom":   func() (bool, api.Errno) { is, e := cnf.FollowsFrom(empty, nil, 0); return is, e },
		"Resolved":      func() (bool, api.Errno) { l, e := cnf.Resolved(f, nil); return len(l) == 0, e },
		"CheckProof":    func() (bool, api.Errno) { i, e := cnf.CheckProof(empty, nil); return i == 0, e },
		"Refuted":       func() (bool, api.Errno) { l, e := cnf.Refuted(empty, 0); return len(l) == 0, e },
		"CoreOf":        func() (bool, api.Errno) { l, e := cnf.CoreOf(empty); return slices.Equal(l, []int{0}), e },
		"FormatFormula": func() (bool, api.Errno) { return cnf.FormatFormula(f) == "0", api.OK },
		"the clause":    func() (bool, api.Errno) { return cnf.FormatFormula(empty) == "0;0", api.OK },
	} {
		if right, e := c(); !right || e != api.OK {
			t.Errorf("%s: %t, %d", name, right, e)
		}
	}
}
