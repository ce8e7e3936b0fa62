package cnf_test

import (
	"slices"
	"testing"

	"ratchet/api"
	"ratchet/cnf"
)

// checkRefuted checks the proof that refutes a formula, the search for which takes so many steps, and is how long it is.
func checkRefuted(t *testing.T, f api.CnfFormula, steps int) int {
	t.Helper()
	if steps > 0 {
		if proof, e := cnf.Refuted(f, steps-1); len(proof) > 0 || e != api.ErrFuel {
			t.Errorf("%v with fuel %d: %d steps, %d", f, steps-1, len(proof), e)
		}
	}
	proof, e := cnf.Refuted(f, steps)
	if e != api.OK || len(proof) > api.MaxCnfProof {
		t.Errorf("%v with fuel %d: %d steps, %d", f, steps, len(proof), e)
	}
	if i, e := cnf.CheckProof(f, proof); i != 0 || e != api.OK {
		t.Errorf("%v: %d, %d in the proof %v", f, i, e, proof)
	}
	return len(proof)
}

// P3.5, P3.9: a formula has a model, or a refutation, never both.
func TestRefuted(t *testing.T) {
	longest := 0
	eachFormula(func(d *dice, f api.CnfFormula) {
		model, steps := searchByHand(f, nil)
		if model == nil {
			longest = max(longest, checkRefuted(t, f, steps))
			return
		}
		if proof, e := cnf.Refuted(f, steps); len(proof) > 0 || e != api.ErrNone {
			t.Errorf("%v: %v, %d", f, proof, e)
		}
		if steps == 0 {
			return
		}
		if proof, e := cnf.Refuted(f, steps-1); len(proof) > 0 || e != api.ErrFuel {
			t.Errorf("%v: %v, %d", f, proof, e)
		}
	})
	if longest < 6 {
		t.Error(longest)
	}
}

// P3.5, P3.9: formulas for which the search goes back often.
func TestRefutedLonger(t *testing.T) {
	d := &dice{state: 7}
	refuted := 0
	for range 300 {
		f := d.formula(10+d.roll(40), 60+d.roll(200), 3)
		for range d.roll(4) {
			f.Clauses = append(f.Clauses, d.literals(f.Vars, 1+d.roll(2)))
		}
		model, e := cnf.FirstModel(f, api.MaxCnfFuel)
		if e == api.OK {
			if !isModel(f, model) {
				t.Errorf("%v: %v", f, model)
			}
			continue
		}
		steps, e := cnf.StepsFor(f, api.MaxCnfFuel)
		if e != api.OK {
			t.Fatal(e)
		}
		refuted++
		checkRefuted(t, f, steps)
	}
	if refuted < 100 || refuted > 250 {
		t.Error(refuted)
	}
}

// P3.5: edge cases.
func TestRefutedExamples(t *testing.T) {
	cases := []struct {
		name  string
		f     api.CnfFormula
		steps int // of the search
		proof int // of the proof, at most
	}{
		{"the example", example(), 0, 3},
		{"the empty clause", formula(2, clause(1), clause()), 0, 0},
		{"the empty clause alone", formula(0, clause()), 0, 0},
		{"two opposites", formula(2, clause(2), clause(-2)), 0, 1},
		{"two opposites, the negative one first", formula(2, clause(-2), clause(2)), 0, 1},
		{"all signs of one", allSigns(1, []int{1}), 0, 1},
		{"all signs of two", allSigns(2, []int{1, 2}), 2, 3},
		{"all signs of eleven", allSigns(11, upTo(1, 11)), 2046, 2047},
		{"a contradiction after free variables", allSigns(9, []int{8, 9}), 2 + 4 + 8 + 16 + 32 + 64 + 128 + 256, 3},
		{"1 pigeon without a hole", pigeons(0), 0, 0},
		{"7 pigeons in 6 holes", pigeons(6), 6490, 10000},
	}
	for _, c := range cases {
		if n := checkRefuted(t, c.f, c.steps); n > c.proof {
			t.Errorf("%s: %d steps", c.name, n)
		}
	}
	for _, f := range []api.CnfFormula{formula(0), formula(3), shorter(), formula(1, clause(-1))} {
		if proof, e := cnf.Refuted(f, 3); len(proof) > 0 || e != api.ErrNone {
			t.Errorf("%v: %v, %d", f, proof, e)
		}
	}
}

// P3.5: what is forced for one reason after another again and again, in long rows, does not make proofs too long.
func TestRefutedRows(t *testing.T) {
	// Each of the values of the first ten variables forces the eleventh one, which cannot be.
	f := allSigns(1000, upTo(1, 10))
	for i := range f.Clauses {
		f.Clauses[i] = append(f.Clauses[i], 11)
	}
	for v := 11; v < 1000; v++ {
		f.Clauses = append(f.Clauses, clause(-v, v+1))
	}
	f.Clauses = append(f.Clauses, clause(-11, -1000))
	if n := checkRefuted(t, f, 2046); n > 3000 {
		t.Error(n)
	}
	// The ends of ten rows cannot have any values. What is learned of the rows is not needed.
	ends := upTo(1, 10)
	var rows [][]int
	for i := range ends {
		for range 98 {
			next := ends[i] + 10
			rows = append(rows, clause(-ends[i], next), clause(ends[i], -next))
			ends[i] = next
		}
	}
	g := allSigns(1000, ends)
	g.Clauses = append(g.Clauses, rows...)
	if n := checkRefuted(t, g, 1022); n > 2000 {
		t.Error(n)
	}
}

// parities is the formula that says that the sums of bits modulo 2, in one order and in the opposite one, differ. The sums are made of and-gates with inverters.
func parities(bits int) api.CnfFormula {
	f := api.CnfFormula{Vars: bits}
	and := func(a, b int) int {
		f.Vars++
		f.Clauses = append(f.Clauses, clause(a, -f.Vars), clause(b, -f.Vars), clause(-a, -b, f.Vars))
		return f.Vars
	}
	sum := func(a, b int) int { return and(-and(a, b), -and(-a, -b)) }
	up, down := 1, bits
	for i := 2; i <= bits; i++ {
		up = sum(up, i)
	}
	for i := bits - 1; i >= 1; i-- {
		down = sum(down, i)
	}
	f.Clauses = append(f.Clauses, clause(up, down), clause(-up, -down))
	for _, literals := range f.Clauses {
		slices.SortFunc(literals, func(a, b int) int { return max(a, -a) - max(b, -b) })
	}
	return f
}

// P3.5: what needs long proofs.
func TestRefutedParities(t *testing.T) {
	for bits := 2; bits <= 11; bits++ {
		checkRefuted(t, parities(bits), 1<<(bits+1)-2)
	}
	// Here the proof may be too long, but is not given out then.
	for bits := 12; bits <= 13; bits++ {
		f := parities(bits)
		proof, e := cnf.Refuted(f, api.MaxCnfFuel)
		if e == api.ErrFuel && len(proof) == 0 {
			continue
		}
		if i, wrong := cnf.CheckProof(f, proof); e != api.OK || i != 0 || wrong != api.OK {
			t.Errorf("%d bits: %d steps, %d, %d, %d", bits, len(proof), e, i, wrong)
		}
	}
}
