package cnf_test

import (
	"slices"
	"testing"

	"ratchet/api"
	"ratchet/cnf"
)

// coreByHand is the first of the smallest sets of clauses without a model (nil: there is none).
func coreByHand(f api.CnfFormula) []int {
	var core []int
	for size := len(f.Clauses); size > 0; size-- {
		var best []int
		eachSetting(len(f.Clauses), func(taken []int) {
			var indexes []int
			g := api.CnfFormula{Vars: f.Vars}
			for i, is := range taken {
				if is == 1 {
					indexes = append(indexes, i)
					g.Clauses = append(g.Clauses, f.Clauses[i])
				}
			}
			if len(indexes) == size && (best == nil || slices.Compare(indexes, best) < 0) && len(modelsByHand(g)) == 0 {
				best = indexes
			}
		})
		if best == nil {
			return core
		}
		core = best
	}
	return core
}

// P3.6, P3.12: cores.
func TestCoreOf(t *testing.T) {
	d := &dice{state: 8}
	counts := [12]int{}
	for range 250 {
		f := api.CnfFormula{Vars: 1 + d.roll(3)}
		for range 1 + d.roll(10) {
			f.Clauses = append(f.Clauses, d.literals(f.Vars, min(f.Vars, 1+(d.roll(6)+5)/6)))
		}
		want := coreByHand(f)
		counts[len(want)]++
		core, e := cnf.CoreOf(f)
		if want == nil {
			if len(core) > 0 || e != api.ErrNone {
				t.Errorf("%v: %v, %d", f, core, e)
			}
			continue
		}
		if !slices.Equal(core, want) || e != api.OK {
			t.Errorf("%v: %v, %d, not %v", f, core, e, want)
		}
		checkCore(t, f, core)
	}
	if counts[0] < 30 || counts[2] < 30 || counts[3] < 10 || counts[4] < 5 {
		t.Error(counts)
	}
}

// checkCore checks that a core has no model, but has one without any one of its clauses.
func checkCore(t *testing.T, f api.CnfFormula, core []int) {
	t.Helper()
	g := api.CnfFormula{Vars: f.Vars}
	for _, i := range core {
		g.Clauses = append(g.Clauses, f.Clauses[i])
	}
	if _, e := cnf.FirstModel(g, api.MaxCnfFuel); e != api.ErrNone {
		t.Errorf("%v: the core %v: %d", f, core, e)
	}
	for i := range g.Clauses {
		h := api.CnfFormula{Vars: g.Vars, Clauses: slices.Delete(slices.Clone(g.Clauses), i, i+1)}
		if _, e := cnf.FirstModel(h, api.MaxCnfFuel); e != api.OK {
			t.Errorf("%v: the core %v without %d: %d", f, core, core[i], e)
		}
	}
}

// P3.6: examples, edge cases and errors.
func TestCoreExamples(t *testing.T) {
	// Eight long clauses, with a contradiction of four others among them.
	wide := api.CnfFormula{Vars: 1000}
	for i := range 8 {
		wide.Clauses = append(wide.Clauses, upTo(12*i+1, 12*i+12))
	}
	wide.Clauses = slices.Insert(wide.Clauses, 3, clause(999, 1000), clause(-999, 1000))
	wide.Clauses = slices.Insert(wide.Clauses, 8, clause(999, -1000), clause(-999, -1000))
	var late api.CnfFormula
	late.Vars = 1000
	for _, i := range []int{0, 1, 2, 5, 6, 7, 10, 11, 3, 4, 8, 9} {
		late.Clauses = append(late.Clauses, wide.Clauses[i])
	}
	chain := api.CnfFormula{Vars: 11, Clauses: [][]int{clause(-11)}}
	for v := 10; v >= 1; v-- {
		chain.Clauses = append(chain.Clauses, clause(-v, v+1))
	}
	chain.Clauses = append(chain.Clauses, clause(1))
	var overlapping api.CnfFormula
	overlapping.Vars = 144
	for i := range 12 {
		overlapping.Clauses = append(overlapping.Clauses, clause(i+1, i+2, i+3, i+4, i+20, i+40, i+60, i+80, i+100, i+120, i+130, i+132))
	}
	cases := []struct {
		name string
		f    api.CnfFormula
		want []int
		err  api.Errno
	}{
		{"example 4", example(), []int{0, 1, 2, 3}, api.OK},
		{"a model", shorter(), nil, api.ErrNone},
		{"nothing", formula(3), nil, api.ErrNone},
		{"the first empty clause", formula(2, clause(1), clause(-1), clause(), clause(2), clause()), []int{2}, api.OK},
		{"only the empty clause", formula(0, clause()), []int{0}, api.OK},
		{"two contradictions, the first", formula(2, clause(2), clause(1), clause(-1), clause(-2)), []int{0, 3}, api.OK},
		{"a small one before an earlier one", formula(3, clause(1), clause(-1, 2), clause(-2), clause(3), clause(-3)), []int{3, 4}, api.OK},
		{"the same clause twice", formula(1, clause(1), clause(1), clause(-1), clause(-1)), []int{0, 2}, api.OK},
		{"all signs", allSigns(3, upTo(1, 3)), upTo(0, 7), api.OK},
		{"all of twelve", chain, upTo(0, 11), api.OK},
		{"many variables", wide, []int{3, 4, 8, 9}, api.OK},
		{"many variables, the contradiction last", late, []int{8, 9, 10, 11}, api.OK},
		{"many variables, a model", formula(1000, late.Clauses[:11]...), nil, api.ErrNone},
		{"overlapping clauses", overlapping, nil, api.ErrNone},
		{"the most clauses", formula(1, append(many(11, 1), clause(-1))...), []int{0, 11}, api.OK},
		{"too many clauses", formula(1, append(many(12, 1), clause(-1))...), nil, api.ErrLarge},
		{"too many clauses with a model", formula(1, many(13, 1)...), nil, api.ErrLarge},
		{"too many clauses, but a wrong one first", formula(1, append(many(12, 1), clause(-2))...), nil, api.ErrRange},
	}
	for _, c := range cases {
		if core, e := cnf.CoreOf(c.f); !slices.Equal(core, c.want) || e != c.err {
			t.Errorf("%s: %v, %d, not %v, %d", c.name, core, e, c.want, c.err)
		}
	}
}
