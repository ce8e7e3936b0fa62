package cnf_test

import (
	"math"
	"slices"
	"testing"

	"ratchet/api"
	"ratchet/cnf"
)

// searchByHand is the model that is found under some decisions (nil: there is none) and how many steps are taken after them: the chapter's definition, from the beginning after each decision.
func searchByHand(f api.CnfFormula, decisions []int) ([]int, int) {
	forced, conflict := propagatedByHand(f, decisions)
	if conflict >= 0 {
		return nil, 0
	}
	known := append(slices.Clone(decisions), forced...)
	for v := 1; v <= f.Vars; v++ {
		if slices.Contains(known, v) || slices.Contains(known, -v) {
			continue
		}
		model, steps := searchByHand(f, append(slices.Clone(decisions), -v))
		if model != nil {
			return model, steps + 1
		}
		model, more := searchByHand(f, append(slices.Clone(decisions), v))
		return model, steps + more + 2
	}
	model := make([]int, f.Vars)
	for i := range model {
		model[i] = flag(slices.Contains(known, i+1))
	}
	return model, 0
}

// checkSearch compares the search for a model with what it should be, with exactly enough fuel and with too little.
func checkSearch(t *testing.T, f api.CnfFormula, want []int, steps int) {
	t.Helper()
	ended := api.OK
	if want == nil {
		ended = api.ErrNone
	}
	for _, fuel := range []int{steps, steps + 1, api.MaxCnfFuel} {
		if model, e := cnf.FirstModel(f, fuel); !slices.Equal(model, want) || e != ended {
			t.Errorf("FirstModel of %v with fuel %d: %v, %d, not %v", f, fuel, model, e, want)
		}
		if n, e := cnf.StepsFor(f, fuel); n != steps || e != api.OK {
			t.Errorf("StepsFor %v with fuel %d: %d, %d, not %d", f, fuel, n, e, steps)
		}
	}
	for _, fuel := range []int{0, steps / 2, steps - 1} {
		if fuel < 0 || fuel >= steps {
			continue
		}
		if model, e := cnf.FirstModel(f, fuel); len(model) > 0 || e != api.ErrFuel {
			t.Errorf("FirstModel of %v with fuel %d: %v, %d", f, fuel, model, e)
		}
		if n, e := cnf.StepsFor(f, fuel); n != 0 || e != api.ErrFuel {
			t.Errorf("StepsFor %v with fuel %d: %d, %d", f, fuel, n, e)
		}
	}
}

// P3.3, P3.9: the first model, and the steps of the search.
func TestSearch(t *testing.T) {
	longest := 0
	eachFormula(func(d *dice, f api.CnfFormula) {
		want, steps := searchByHand(f, nil)
		models := modelsByHand(f)
		if (want == nil) != (len(models) == 0) || want != nil && !slices.Equal(want, models[0]) {
			t.Fatalf("%v: %v by hand, but the models %v", f, want, models)
		}
		checkSearch(t, f, want, steps)
		if want != nil {
			if l, e := cnf.FalseIn(f, want); len(l) > 0 || e != api.OK {
				t.Errorf("%v: %v are false in %v", f, l, want)
			}
		}
		longest = max(longest, steps)
	})
	if longest < 7 {
		t.Error(longest)
	}
}

// P3.3: formulas for which the search goes back often.
func TestSearchLonger(t *testing.T) {
	d := &dice{state: 4}
	for range 60 {
		f := d.formula(14, 45+d.roll(20), 3)
		f.Clauses = append(f.Clauses, d.formula(14, 8, 2).Clauses...)
		for range 6 {
			f.Clauses = append(f.Clauses, d.literals(14, 12))
		}
		want, steps := searchByHand(f, nil)
		checkSearch(t, f, want, steps)
	}
	for holes := range 5 {
		want, steps := searchByHand(pigeons(holes), nil)
		checkSearch(t, pigeons(holes), want, steps)
	}
}

// P3.3: examples and edge cases.
func TestSearchExamples(t *testing.T) {
	chain := api.CnfFormula{Vars: 1000}
	for v := range 999 {
		chain.Clauses = append(chain.Clauses, clause(-v-1, v+2))
	}
	back := api.CnfFormula{Vars: 1000, Clauses: chain.Clauses}
	back.Clauses = append(slices.Clone(back.Clauses), clause(1, 1000), clause(500, 1000))
	ones := slices.Repeat([]int{1}, 1000)
	cases := []struct {
		name  string
		f     api.CnfFormula
		want  []int
		steps int
	}{
		{"example 2", example(), nil, 0},
		{"example 2 without the last clause", shorter(), []int{0, 1, 1}, 1},
		{"no variables", formula(0), []int{}, 0},
		{"no variables, the empty clause", formula(0, clause()), nil, 0},
		{"no clauses", formula(4), []int{0, 0, 0, 0}, 4},
		{"no clauses, all variables", formula(1000), make([]int, 1000), 1000},
		{"the empty clause", formula(4, clause(1, 2), clause()), nil, 0},
		{"one variable", formula(1, clause(1)), []int{1}, 0},
		{"both signs", formula(2, clause(2), clause(-2)), nil, 0},
		{"all clauses true, but more to decide", formula(3, clause(-1)), []int{0, 0, 0}, 2},
		{"what is decided first has no model", formula(3, clause(1, 2, 3), clause(1, 2, -3), clause(1, -2, 3), clause(1, -2, -3)), []int{1, 0, 0}, 6},
		{"all signs of two", allSigns(2, []int{1, 2}), nil, 2},
		{"all signs of three", allSigns(3, []int{1, 2, 3}), nil, 6},
		{"all signs of the last three", allSigns(5, []int{3, 4, 5}), nil, 2 + 4 + 4*6}, // six steps for each of the four values of the others
		{"all signs of ten", allSigns(10, upTo(1, 10)), nil, 1022},
		{"chain", chain, make([]int, 1000), 1000},
		{"chain with one end", api.CnfFormula{Vars: 1000, Clauses: append(slices.Clone(chain.Clauses), clause(1))}, ones, 0},
		{"chain with a decision", back, append(make([]int, 999), 1), 999},
		{"chain with the other end", api.CnfFormula{Vars: 1000, Clauses: append(slices.Clone(chain.Clauses), clause(-1000))}, make([]int, 1000), 0},
	}
	for _, c := range cases {
		t.Run(c.name, func(t *testing.T) { checkSearch(t, c.f, c.want, c.steps) })
	}
}

// P3.3: more steps than there may be fuel.
func TestSearchWithoutEnd(t *testing.T) {
	// The conflict is in the last variables, and so is found again for all values of the others.
	f := allSigns(1000, []int{998, 999, 1000})
	for _, fuel := range []int{0, 1, 997, 998, 12345, 20000} {
		if model, e := cnf.FirstModel(f, fuel); len(model) > 0 || e != api.ErrFuel {
			t.Error("FirstModel", fuel, model, e)
		}
		if n, e := cnf.StepsFor(f, fuel); n != 0 || e != api.ErrFuel {
			t.Error("StepsFor", fuel, n, e)
		}
		if l, e := cnf.Refuted(f, fuel); len(l) > 0 || e != api.ErrFuel {
			t.Error("Refuted", fuel, len(l), e)
		}
		if is, e := cnf.FollowsFrom(f, nil, fuel); is || e != api.ErrFuel {
			t.Error("FollowsFrom", fuel, is, e)
		}
	}
}

// P3.3: the greatest formulas, whose search goes on for long.
func TestSearchLargest(t *testing.T) {
	d := &dice{state: 5}
	long := d.formula(1000, 4000, 12)
	model, e := cnf.FirstModel(long, api.MaxCnfFuel)
	if e != api.OK || !isModel(long, model) {
		t.Error(len(model), e)
	}
	n, e := cnf.StepsFor(long, api.MaxCnfFuel)
	if e != api.OK || n < 500 {
		t.Error(n, e)
	}
	if _, e := cnf.FirstModel(d.formula(1000, 4000, 3), api.MaxCnfFuel); e != api.ErrFuel {
		t.Error(e)
	}
}

// P3.3, P3.10: how many models there are.
func TestCountModels(t *testing.T) {
	eachFormula(func(d *dice, f api.CnfFormula) {
		want := len(modelsByHand(f))
		if n, e := cnf.CountModels(f); n != want || e != api.OK {
			t.Errorf("%v: %d, %d, not %d", f, n, e, want)
		}
		for v := 1; v <= f.Vars; v++ {
			sum := 0
			for _, literal := range []int{v, -v} {
				under, _ := cnf.Under(f, literal)
				n, _ := cnf.CountModels(under)
				sum += n
			}
			if sum != 2*want {
				t.Errorf("%v: %d under %d, %d models", f, sum, v, want)
			}
		}
	})
}

// P3.3: examples, edge cases and the greatest formulas that are counted.
func TestCountModelsExamples(t *testing.T) {
	d := &dice{state: 6}
	long := d.formula(16, 4000, 12)
	// All clauses with a positive literal of the last six variables: only 1 1 1 1 1 1 is a model of these.
	positive := api.CnfFormula{Vars: 16}
	for number := 1; number < 729; number++ {
		var literals []int
		rest := number
		for v := 11; v <= 16; v++ {
			if rest%3 > 0 {
				literals = append(literals, v*(3-2*(rest%3)))
			}
			rest /= 3
		}
		if slices.Max(literals) > 0 {
			positive.Clauses = append(positive.Clauses, literals)
		}
	}
	cases := []struct {
		name string
		f    api.CnfFormula
		want int
		err  api.Errno
	}{
		{"example 2", shorter(), 3, api.OK},
		{"the example", example(), 0, api.OK},
		{"nothing", formula(0), 1, api.OK},
		{"no variables, the empty clause", formula(0, clause()), 0, api.OK},
		{"the empty clause", formula(3, clause(1), clause()), 0, api.OK},
		{"no clauses", formula(16), 65536, api.OK},
		{"one model", formula(2, clause(-1), clause(2)), 1, api.OK},
		{"a free variable", formula(3, clause(-1), clause(3)), 2, api.OK},
		{"too many variables", formula(17), 0, api.ErrLarge},
		{"too many variables, no model", formula(17, clause()), 0, api.ErrLarge},
		{"the last literal 4000 times", formula(16, many(4000, -16)...), 32768, api.OK},
		{"a long clause", formula(16, upTo(5, 16)), 65536 - 16, api.OK},
		{"long clauses", long, len(modelsByHand(long)), api.OK},
		{"short clauses of the last variables", positive, 1024, api.OK},
	}
	for _, c := range cases {
		if n, e := cnf.CountModels(c.f); n != c.want || e != c.err {
			t.Errorf("%s: %d, %d, not %d, %d", c.name, n, e, c.want, c.err)
		}
	}
}

// followsByHand says whether a clause is true in all models.
func followsByHand(f api.CnfFormula, literals []int) bool {
	return !slices.ContainsFunc(modelsByHand(f), func(model []int) bool { return !isTrueClause(model, literals) })
}

// P3.4, P3.12: what follows, and the fuel that it needs.
func TestFollowsFrom(t *testing.T) {
	counts := [2]int{}
	eachFormula(func(d *dice, f api.CnfFormula) {
		for range 4 {
			literals := d.literals(f.Vars, d.roll(min(4, f.Vars+1)))
			want := followsByHand(f, literals)
			counts[flag(want)]++
			opposite := copyOf(f)
			for _, literal := range literals {
				opposite.Clauses = append(opposite.Clauses, clause(-literal))
			}
			_, steps := searchByHand(opposite, nil)
			for _, fuel := range []int{steps, api.MaxCnfFuel} {
				if is, e := cnf.FollowsFrom(f, literals, fuel); is != want || e != api.OK {
					t.Errorf("%v, %v, fuel %d: %t, %d, not %t", f, literals, fuel, is, e, want)
				}
			}
			if _, e := cnf.FirstModel(opposite, steps); (e == api.ErrNone) != want {
				t.Errorf("%v, %v: %t, but %d with the opposites", f, literals, want, e)
			}
			if steps == 0 {
				continue
			}
			if is, e := cnf.FollowsFrom(f, literals, steps-1); is || e != api.ErrFuel {
				t.Errorf("%v, %v, fuel %d: %t, %d", f, literals, steps-1, is, e)
			}
		}
	})
	if counts[0] < 100 || counts[1] < 100 {
		t.Error(counts)
	}
}

// P3.4: examples, edge cases and errors.
func TestFollowsFromExamples(t *testing.T) {
	full := formula(13, many(4000, 1)...)
	cases := []struct {
		name    string
		f       api.CnfFormula
		clause  []int
		fuel    int
		want    bool
		wantErr api.Errno
	}{
		{"example 5", shorter(), clause(3), 0, true, api.OK},
		{"example 5, what does not follow", shorter(), clause(1), 10, false, api.OK},
		{"the empty clause does not follow", shorter(), nil, 10, false, api.OK},
		{"the empty clause follows", example(), nil, 10, true, api.OK},
		{"everything follows", example(), clause(-1, -2), 10, true, api.OK},
		{"a clause of it", shorter(), clause(-1, 3), 10, true, api.OK},
		{"a longer clause", shorter(), clause(-1, 2, 3), 10, true, api.OK},
		{"from nothing", formula(2), clause(1), 10, false, api.OK},
		{"with a search", allSigns(3, upTo(1, 3)), nil, 6, true, api.OK},
		{"with too little fuel for it", allSigns(3, upTo(1, 3)), nil, 5, false, api.ErrFuel},
		{"more clauses than a formula may have", full, upTo(2, 13), 100, false, api.OK},
		{"too long", full, upTo(1, 13), -1, false, api.ErrLarge},
		{"no literal", shorter(), clause(0), -1, false, api.ErrRange},
		{"no variable", shorter(), clause(-4), 10, false, api.ErrRange},
		{"the least number", shorter(), clause(math.MinInt), 10, false, api.ErrRange},
		{"the wrong order, before the fuel", shorter(), clause(2, 1), -1, false, api.ErrOrder},
		{"a literal and its opposite", shorter(), clause(1, -1), 10, false, api.ErrOrder},
		{"no fuel", shorter(), clause(1), -1, false, api.ErrRange},
	}
	for _, c := range cases {
		if is, e := cnf.FollowsFrom(c.f, c.clause, c.fuel); is != c.want || e != c.wantErr {
			t.Errorf("%s: %t, %d, not %t, %d", c.name, is, e, c.want, c.wantErr)
		}
	}
}
