package cnf_test

import (
	"math"
	"testing"

	"ratchet/api"
	"ratchet/cnf"
)

// underByHand is a formula under a literal.
func underByHand(f api.CnfFormula, literal int) api.CnfFormula {
	g := api.CnfFormula{Vars: f.Vars}
clauses:
	for _, literals := range f.Clauses {
		var rest []int
		for _, l := range literals {
			if l == literal {
				continue clauses
			}
			if l != -literal {
				rest = append(rest, l)
			}
		}
		g.Clauses = append(g.Clauses, rest)
	}
	return g
}

// P3.4: formulas under all of their literals.
func TestUnder(t *testing.T) {
	eachFormula(func(d *dice, f api.CnfFormula) {
		for v := 1; v <= f.Vars; v++ {
			for _, literal := range []int{v, -v} {
				want := underByHand(f, literal)
				g, e := cnf.Under(f, literal)
				if !sameFormula(g, want) || e != api.OK {
					t.Errorf("%v under %d: %v, %d, not %v", f, literal, g, e, want)
				}
				if i, e := cnf.CheckFormula(g); i != 0 || e != api.OK {
					t.Errorf("%v under %d: %d, %d", f, literal, i, e)
				}
				eachSetting(f.Vars, func(model []int) {
					if isTrue(model, literal) && isModel(f, model) != isModel(g, model) {
						t.Errorf("%v under %d: other models", f, literal)
					}
				})
			}
		}
	})
}

// P3.4: examples, edge cases and errors.
func TestUnderExamples(t *testing.T) {
	cases := []struct {
		f       api.CnfFormula
		literal int
		want    api.CnfFormula
		err     api.Errno
	}{
		{example(), 1, formula(3, clause(3), clause(-2, 3), clause(-3)), api.OK}, // example 4
		{example(), -1, formula(3, clause(2), clause(-2, 3), clause(-3)), api.OK},
		{example(), -3, formula(3, clause(1, 2), clause(-1), clause(-2)), api.OK},
		{example(), 3, formula(3, clause(1, 2), clause()), api.OK},
		{formula(4, clause(1)), 4, formula(4, clause(1)), api.OK}, // a literal that no clause has
		{formula(1, clause(1)), 1, formula(1), api.OK},
		{formula(1, clause()), 1, formula(1, clause()), api.OK},
		{formula(2, clause(1, 2), clause(1, 2)), -2, formula(2, clause(1), clause(1)), api.OK},
		{example(), 0, formula(0), api.ErrRange},
		{example(), 4, formula(0), api.ErrRange},
		{example(), -4, formula(0), api.ErrRange},
		{example(), math.MinInt, formula(0), api.ErrRange},
		{formula(0), 1, formula(0), api.ErrRange},
	}
	for _, c := range cases {
		if g, e := cnf.Under(c.f, c.literal); !sameFormula(g, c.want) || e != c.err {
			t.Errorf("%v under %d: %v, %d, not %v, %d", c.f, c.literal, g, e, c.want, c.err)
		}
	}
}
