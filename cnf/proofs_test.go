package cnf_test

import (
	"math"
	"slices"
	"testing"

	"ratchet/api"
	"ratchet/cnf"
)

func step(first, second, by int) api.CnfStep {
	return api.CnfStep{First: first, Second: second, Var: by}
}

// exampleProof is the one of example 3.
func exampleProof() []api.CnfStep { return []api.CnfStep{step(0, 1, 1), step(4, 2, 2), step(5, 3, 3)} }

// resolvedByHand is the clause of a step after some clauses, or its error: the chapter's definition.
func resolvedByHand(f api.CnfFormula, before [][]int, s api.CnfStep) ([]int, api.Errno) {
	for _, i := range []int{s.First, s.Second} {
		if i < 0 || i >= len(before) {
			return nil, api.ErrMissing
		}
	}
	if s.Var < 1 || s.Var > f.Vars {
		return nil, api.ErrRange
	}
	a, b := before[s.First], before[s.Second]
	if !slices.Contains(a, s.Var) || !slices.Contains(b, -s.Var) {
		return nil, api.ErrProof
	}
	var literals []int
	for v := 1; v <= f.Vars; v++ {
		has := func(literal int) bool { return slices.Contains(a, literal) || slices.Contains(b, literal) }
		switch {
		case v == s.Var:
		case has(v) && has(-v):
			return nil, api.ErrClash
		case has(v):
			literals = append(literals, v)
		case has(-v):
			literals = append(literals, -v)
		}
	}
	return literals, api.OK
}

// P3.5, P3.11: steps at random, most of which are possible, and the first that is not.
func TestResolved(t *testing.T) {
	counts := map[api.Errno]int{}
	refuted := 0
	eachFormula(func(d *dice, f api.CnfFormula) {
		if len(f.Clauses) < 2 || f.Vars == 0 {
			return
		}
		models := modelsByHand(f)
		clauses := slices.Clone(f.Clauses)
		var proof []api.CnfStep
		for range 60 {
			s := step(d.roll(len(clauses)+1), d.roll(len(clauses)+1), d.roll(f.Vars+2))
			literals, want := resolvedByHand(f, clauses, s)
			counts[want]++
			i, e := cnf.CheckProof(f, append(slices.Clone(proof), s))
			if want != api.OK {
				if l, e := cnf.Resolved(f, append(slices.Clone(proof), s)); len(l) > 0 || e != want {
					t.Errorf("%v, %v, %v: %v, %d, not %d", f, proof, s, l, e, want)
				}
				if i != len(proof) || e != want {
					t.Errorf("%v, %v, %v: %d, %d, not %d, %d", f, proof, s, i, e, len(proof), want)
				}
				continue
			}
			proof = append(proof, s)
			clauses = append(clauses, literals)
			if l, e := cnf.Resolved(f, proof); !sameClauses(l, clauses[len(f.Clauses):]) || e != api.OK {
				t.Errorf("%v, %v: %v, %d, not %v", f, proof, l, e, clauses)
			}
			if i != 0 || e != api.OK && e != api.ErrOpen || (e == api.OK) != (len(literals) == 0) {
				t.Errorf("%v, %v: %d, %d", f, proof, i, e)
			}
			if len(literals) == 0 {
				refuted++
			}
			for _, model := range models {
				if !isTrueClause(model, literals) {
					t.Errorf("%v, %v: %v does not follow", f, proof, literals)
				}
			}
		}
	})
	for _, e := range []api.Errno{api.OK, api.ErrMissing, api.ErrRange, api.ErrProof, api.ErrClash} {
		if counts[e] < 100 {
			t.Error(counts)
		}
	}
	if refuted < 50 {
		t.Error(refuted)
	}
}

// P3.5: examples and edge cases.
func TestCheckProof(t *testing.T) {
	tail := func(proof []api.CnfStep, more ...api.CnfStep) []api.CnfStep { return append(proof, more...) }
	cases := []struct {
		name  string
		f     api.CnfFormula
		proof []api.CnfStep
		index int
		want  api.Errno
	}{
		{"example 3", example(), exampleProof(), 0, api.OK},
		{"a part of it", example(), exampleProof()[:2], 0, api.ErrOpen},
		{"nothing of it", example(), nil, 0, api.ErrOpen},
		{"the empty clause, but not last", example(), tail(exampleProof(), step(0, 1, 1)), 0, api.ErrOpen},
		{"the empty clause twice", example(), tail(exampleProof(), step(5, 3, 3)), 0, api.OK},
		{"no steps, an empty clause", formula(2, clause(1), clause()), nil, 0, api.OK},
		{"no steps, no clauses", formula(2), nil, 0, api.ErrOpen},
		{"an empty clause, but steps without one", formula(2, clause(1), clause(-1, 2), clause()), []api.CnfStep{step(0, 1, 1)}, 0, api.ErrOpen},
		{"a clause that is empty already", formula(2, clause(1), clause()), []api.CnfStep{step(0, 1, 1)}, 0, api.ErrProof},
		{"its own clause", example(), []api.CnfStep{step(0, 4, 1)}, 0, api.ErrMissing},
		{"its own clause as the first one", example(), []api.CnfStep{step(0, 1, 1), step(5, 3, 3)}, 1, api.ErrMissing},
		{"a negative clause", example(), []api.CnfStep{step(-1, 1, 1)}, 0, api.ErrMissing},
		{"a negative second clause", example(), []api.CnfStep{step(0, -1, 1)}, 0, api.ErrMissing},
		{"no clause before no variable", example(), []api.CnfStep{step(0, 4, 0)}, 0, api.ErrMissing},
		{"the variable 0", example(), []api.CnfStep{step(0, 1, 0)}, 0, api.ErrRange},
		{"a negative variable", example(), []api.CnfStep{step(1, 0, -1)}, 0, api.ErrRange},
		{"a variable too great", example(), []api.CnfStep{step(0, 1, 1), step(0, 1, 4)}, 1, api.ErrRange},
		{"the clauses in the other order", example(), []api.CnfStep{step(1, 0, 1)}, 0, api.ErrProof},
		{"a variable that the second clause does not have", example(), []api.CnfStep{step(0, 2, 1)}, 0, api.ErrProof},
		{"a variable that the first clause does not have", example(), []api.CnfStep{step(0, 1, 1), step(3, 2, 2)}, 1, api.ErrProof},
		{"the same clause twice", example(), []api.CnfStep{step(1, 1, 1)}, 0, api.ErrProof},
		{"a clash", formula(2, clause(1, 2), clause(-1, -2)), []api.CnfStep{step(0, 1, 1)}, 0, api.ErrClash},
		{"a clash by the other variable", formula(2, clause(1, 2), clause(-1, -2)), []api.CnfStep{step(0, 1, 2)}, 0, api.ErrClash},
		{"no clash", formula(3, clause(1, 2, 3), clause(-1, 2, 3), clause(-2), clause(-3)), []api.CnfStep{step(0, 1, 1), step(4, 2, 2), step(5, 3, 3)}, 0, api.OK},
		{"the first wrong step", example(), []api.CnfStep{step(0, 1, 1), step(0, 1, 2), step(9, 9, 9)}, 1, api.ErrProof},
		{"a wrong step after the empty clause", example(), tail(exampleProof(), step(0, 1, 0)), 3, api.ErrRange},
		{"too many steps, before a wrong one", example(), make([]api.CnfStep, 200001), 0, api.ErrLarge},
		{"a wrong formula, before too many steps", formula(1, clause(2)), make([]api.CnfStep, 200001), 0, api.ErrRange},
		{"the index of the step, not of the clause", formula(3, clause(1), clause(2), clause(-1, 4)), exampleProof(), 0, api.ErrRange},
	}
	for _, c := range cases {
		if i, e := cnf.CheckProof(c.f, c.proof); i != c.index || e != c.want {
			t.Errorf("%s: %d, %d, not %d, %d", c.name, i, e, c.index, c.want)
		}
		want := c.want
		if want == api.ErrOpen { // what is resolved need not be empty
			want = api.OK
		}
		if l, e := cnf.Resolved(c.f, c.proof); e != want || e != api.OK && len(l) > 0 || e == api.OK && len(l) != len(c.proof) {
			t.Errorf("%s: %d clauses, %d, not %d", c.name, len(l), e, want)
		}
	}
	if l, e := cnf.Resolved(example(), exampleProof()); !sameClauses(l, [][]int{{2, 3}, {3}, {}}) || e != api.OK {
		t.Error("example 3", l, e)
	}
}

// P3.5: clauses of steps may be longer than those of formulas.
func TestResolvedLong(t *testing.T) {
	var f api.CnfFormula
	f.Vars = 1000
	f.Clauses = append(f.Clauses, clause(1, 2))
	var proof []api.CnfStep
	for v := 2; v+10 <= 1000; v += 10 {
		f.Clauses = append(f.Clauses, append(clause(-v), upTo(v+1, v+10)...))
	}
	for i := 1; i < len(f.Clauses); i++ {
		s := step(len(f.Clauses)+i-2, i, 10*i-8)
		if i == 1 {
			s.First = 0
		}
		proof = append(proof, s)
	}
	l, e := cnf.Resolved(f, proof)
	if e != api.OK || len(l) != len(proof) {
		t.Fatal(len(l), e)
	}
	want := slices.DeleteFunc(upTo(1, 10*len(l)+2), func(v int) bool { return v%10 == 2 && v <= 10*len(l) })
	if last := l[len(l)-1]; !slices.Equal(last, want) {
		t.Error(len(last), last)
	}
}

// P3.5: the longest proof, and extreme numbers in its steps.
func TestProofLargest(t *testing.T) {
	f := formula(1, clause(1), clause(-1))
	proof := slices.Repeat([]api.CnfStep{step(0, 1, 1)}, api.MaxCnfProof)
	if i, e := cnf.CheckProof(f, proof); i != 0 || e != api.OK {
		t.Error(i, e)
	}
	proof[api.MaxCnfProof-1] = step(0, 2, 1)
	if i, e := cnf.CheckProof(f, proof); i != api.MaxCnfProof-1 || e != api.ErrProof {
		t.Error(i, e)
	}
	for _, n := range extremes {
		if n < 0 || n > 2 {
			if i, e := cnf.CheckProof(f, []api.CnfStep{step(0, 1, 1), step(0, n, 1)}); i != 1 || e != api.ErrMissing {
				t.Error(n, i, e)
			}
			if i, e := cnf.CheckProof(f, []api.CnfStep{step(0, 1, n)}); i != 0 || e != api.ErrRange {
				t.Error(n, i, e)
			}
		}
	}
	if i, e := cnf.CheckProof(f, []api.CnfStep{step(math.MaxInt, math.MinInt, math.MinInt)}); i != 0 || e != api.ErrMissing {
		t.Error(i, e)
	}
}
