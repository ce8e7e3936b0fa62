package cnf_test

import (
	"math"
	"slices"
	"testing"

	"ratchet/api"
	"ratchet/cnf"
)

// propagatedByHand is what some literals force, and the conflict: the chapter's definition.
func propagatedByHand(f api.CnfFormula, assumed []int) ([]int, int) {
	values := map[int]bool{} // the true literals
	for _, literal := range assumed {
		values[literal] = true
	}
	var forced []int
	for {
		taken := slices.IndexFunc(f.Clauses, func(literals []int) bool {
			open := 0
			for _, literal := range literals {
				if values[literal] {
					return false
				}
				if !values[-literal] {
					open++
				}
			}
			return open <= 1
		})
		if taken < 0 {
			return forced, -1
		}
		open := slices.IndexFunc(f.Clauses[taken], func(literal int) bool { return !values[-literal] })
		if open < 0 {
			return forced, taken
		}
		literal := f.Clauses[taken][open]
		values[literal] = true
		forced = append(forced, literal)
	}
}

// P3.2: the forced literals in their order, and the conflict.
func TestPropagated(t *testing.T) {
	conflicts, none := 0, 0
	eachFormula(func(d *dice, f api.CnfFormula) {
		for range 5 {
			assumed := d.literals(f.Vars, d.roll(f.Vars+1))
			want, conflict := propagatedByHand(f, assumed)
			l, i, e := cnf.Propagated(f, assumed)
			if !slices.Equal(l, want) || i != conflict || e != api.OK {
				t.Errorf("%v, %v: %v, %d, %d, not %v, %d", f, assumed, l, i, e, want, conflict)
			}
			if len(want) > 1 {
				conflicts += flag(conflict >= 0)
				none += flag(conflict < 0)
			}
		}
	})
	if conflicts < 100 || none < 100 {
		t.Error(conflicts, none)
	}
}

// P3.2: examples and edge cases.
func TestPropagatedExamples(t *testing.T) {
	chain := api.CnfFormula{Vars: 1000}
	for v := 999; v >= 1; v-- {
		chain.Clauses = append(chain.Clauses, clause(-v, v+1))
	}
	cases := []struct {
		f        api.CnfFormula
		assumed  []int
		want     []int
		conflict int
	}{
		{example(), nil, []int{-3, -1, 2}, 2}, // example 1
		{shorter(), nil, nil, -1},
		{shorter(), []int{-1}, []int{2, 3}, -1},
		{shorter(), []int{1}, []int{3}, -1},
		{shorter(), []int{-3}, []int{-1, 2}, 2},
		{shorter(), []int{-1, -2}, nil, 0},
		{shorter(), []int{-1, 2, -3}, nil, 2},
		{shorter(), []int{1, 2, 3}, nil, -1},
		{formula(0), nil, nil, -1},
		{formula(5), []int{1, -5}, nil, -1},
		{formula(3, clause(), clause(1)), nil, nil, 0}, // the empty clause is a conflict at once
		{formula(3, clause(), clause(1)), []int{2}, nil, 0},
		{formula(3, clause(1), clause(), clause(2)), nil, []int{1}, 1}, // but a clause before it is taken before
		{formula(3, clause(1), clause(), clause(2)), []int{1}, nil, 1},
		{formula(3, clause(3), clause(2), clause(1)), nil, []int{3, 2, 1}, -1},
		{formula(3, clause(-1, 2), clause(3), clause(1)), nil, []int{3, 1, 2}, -1},
		{formula(2, clause(1), clause(-1), clause(2)), nil, []int{1}, 1},
		{formula(2, clause(2), clause(2), clause(-2)), nil, []int{2}, 2},
		{formula(2, clause(-1, -2), clause(1, 2)), []int{1}, []int{-2}, -1},
		{chain, []int{1}, upTo(2, 1000), -1},
		{chain, upTo(1, 1000), nil, -1},
		{chain, []int{-1000}, negative(999, 1), -1},
		{chain, []int{999, -1000}, nil, 0},
	}
	for _, c := range cases {
		l, i, e := cnf.Propagated(c.f, c.assumed)
		if !slices.Equal(l, c.want) || i != c.conflict || e != api.OK {
			t.Errorf("%v, %v: %v, %d, %d, not %v, %d", c.f, c.assumed, l, i, e, c.want, c.conflict)
		}
	}
}

// negative is the opposites of the variables from the first one down to the last one.
func negative(first, last int) []int {
	var l []int
	for v := first; v >= last; v-- {
		l = append(l, -v)
	}
	return l
}

// P3.2: literals that are no assumption.
func TestPropagatedErrors(t *testing.T) {
	cases := []struct {
		f       api.CnfFormula
		assumed []int
		want    api.Errno
	}{
		{formula(1000), upTo(1, 1000), api.OK},
		{formula(1000), upTo(0, 1000), api.ErrLarge},
		{formula(14), upTo(1, 14), api.OK}, // more than a clause may have
		{example(), []int{0}, api.ErrRange},
		{example(), []int{1, 4}, api.ErrRange},
		{example(), []int{-4}, api.ErrRange},
		{example(), []int{math.MinInt}, api.ErrRange},
		{example(), []int{1, 1}, api.ErrOrder},
		{example(), []int{1, -1}, api.ErrOrder},
		{example(), []int{2, -1, 4}, api.ErrOrder},
		{example(), []int{4, 2, 1}, api.ErrRange},
	}
	for _, c := range cases {
		if l, i, e := cnf.Propagated(c.f, c.assumed); e != c.want || e != api.OK && (len(l) > 0 || i != 0) {
			t.Errorf("%v, %v: %v, %d, %d, not %d", c.f, c.assumed, l, i, e, c.want)
		}
	}
}

// P3.8: what is forced is true in all models in which the assumed literals are, and a conflict says that there are none, whatever the order of the clauses is.
func TestForced(t *testing.T) {
	eachFormula(func(d *dice, f api.CnfFormula) {
		assumed := d.literals(f.Vars, d.roll(f.Vars+1))
		forced, conflict, _ := cnf.Propagated(f, assumed)
		for _, model := range modelsByHand(f) {
			fits := !slices.ContainsFunc(assumed, func(literal int) bool { return !isTrue(model, literal) })
			if fits && conflict >= 0 {
				t.Errorf("%v, %v: the conflict %d and the model %v", f, assumed, conflict, model)
			}
			for _, literal := range forced {
				if fits && !isTrue(model, literal) {
					t.Errorf("%v, %v: %d is forced, but not in the model %v", f, assumed, literal, model)
				}
			}
		}
		g := copyOf(f)
		for i := range g.Clauses {
			j := d.roll(i + 1)
			g.Clauses[i], g.Clauses[j] = g.Clauses[j], g.Clauses[i]
		}
		again, other, _ := cnf.Propagated(g, assumed)
		if (other >= 0) != (conflict >= 0) {
			t.Errorf("%v, %v: the conflict %d, in another order %d", f, assumed, conflict, other)
		}
		slices.Sort(again)
		slices.Sort(forced)
		if conflict < 0 && !slices.Equal(again, forced) {
			t.Errorf("%v, %v: forced %v, in another order %v", f, assumed, forced, again)
		}
	})
}
