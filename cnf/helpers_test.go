package cnf_test

import (
	"math"
	"slices"

	"ratchet/api"
)

func formula(vars int, clauses ...[]int) api.CnfFormula {
	return api.CnfFormula{Vars: vars, Clauses: clauses}
}

func clause(literals ...int) []int { return literals }

// example is the formula of the chapter's examples.
func example() api.CnfFormula {
	return formula(3, clause(1, 2), clause(-1, 3), clause(-2, 3), clause(-3))
}

// shorter is the example without its last clause.
func shorter() api.CnfFormula {
	f := example()
	f.Clauses = f.Clauses[:3]
	return f
}

// extremes are numbers at which careless arithmetic panics or wraps around.
var extremes = []int{math.MinInt, math.MinInt + 1, math.MinInt32, -1001, -1000, -13, -3, -2, -1, 0, 1, 2, 3, 12, 13, 63, 64, 1000, 1001, 4000, 4001, 20000, 20001, math.MaxInt32, math.MaxInt - 1, math.MaxInt}

// upTo is the numbers from the first to the last one.
func upTo(first, last int) []int {
	var l []int
	for i := first; i <= last; i++ {
		l = append(l, i)
	}
	return l
}

// many is as many equal clauses.
func many(count int, literals ...int) [][]int {
	l := make([][]int, count)
	for i := range l {
		l[i] = literals
	}
	return l
}

// copyOf is a formula that shares no memory with another one.
func copyOf(f api.CnfFormula) api.CnfFormula {
	f.Clauses = slices.Clone(f.Clauses)
	for i := range f.Clauses {
		f.Clauses[i] = slices.Clone(f.Clauses[i])
	}
	return f
}

// sameClauses is equality in which no literals are an empty list of them.
func sameClauses(a, b [][]int) bool { return slices.EqualFunc(a, b, slices.Equal[[]int]) }

func sameFormula(a, b api.CnfFormula) bool {
	return a.Vars == b.Vars && sameClauses(a.Clauses, b.Clauses)
}

func flag(set bool) int {
	if set {
		return 1
	}
	return 0
}

// isTrue says whether a literal is true in a model.
func isTrue(model []int, literal int) bool {
	if literal > 0 {
		return model[literal-1] == 1
	}
	return model[-literal-1] == 0
}

func isTrueClause(model, literals []int) bool {
	for _, literal := range literals {
		if isTrue(model, literal) {
			return true
		}
	}
	return false
}

func isModel(f api.CnfFormula, model []int) bool {
	for _, literals := range f.Clauses {
		if !isTrueClause(model, literals) {
			return false
		}
	}
	return true
}

// eachSetting visits all values of some variables in lexicographic order.
func eachSetting(vars int, visit func(model []int)) {
	for number := range 1 << vars {
		model := make([]int, vars)
		for i := range model {
			model[i] = number >> (vars - 1 - i) & 1
		}
		visit(model)
	}
}

// modelsByHand is all models of a formula in lexicographic order.
func modelsByHand(f api.CnfFormula) [][]int {
	var models [][]int
	eachSetting(f.Vars, func(model []int) {
		if isModel(f, model) {
			models = append(models, model)
		}
	})
	return models
}

// dice is a row of numbers that look as if they were random, always the same.
type dice struct{ state uint64 }

// roll is a number below another one.
func (d *dice) roll(below int) int {
	d.state = d.state*6364136223846793005 + 1442695040888963407
	return int(d.state >> 33 % uint64(below))
}

// literals is so many literals of different variables, ascending.
func (d *dice) literals(vars, count int) []int {
	var l []int
	for v := 1; v <= vars; v++ {
		// As many are needed as there are variables left, of which each is as likely as the others.
		if d.roll(vars-v+1) < count-len(l) {
			l = append(l, v-2*v*d.roll(2))
		}
	}
	return l
}

// formula is a valid formula.
func (d *dice) formula(vars, clauses, literals int) api.CnfFormula {
	f := api.CnfFormula{Vars: vars}
	for range clauses {
		f.Clauses = append(f.Clauses, d.literals(vars, min(vars, literals)))
	}
	return f
}

// eachFormula visits many small formulas, about half of which have models.
func eachFormula(visit func(d *dice, f api.CnfFormula)) {
	d := &dice{state: 3}
	for i := range 600 {
		f := api.CnfFormula{Vars: d.roll(8)}
		for range d.roll(4 * (f.Vars + 1)) {
			length := 1 + d.roll(3)
			if i%50 == 0 {
				length = 0
			}
			if f.Vars > 0 || length == 0 {
				f.Clauses = append(f.Clauses, d.literals(f.Vars, min(f.Vars, length)))
			}
		}
		visit(d, f)
	}
}

// pigeons is the formula that says of pigeons, one more than holes, that each has a hole of its own.
func pigeons(holes int) api.CnfFormula {
	in := func(pigeon, hole int) int { return pigeon*holes + hole + 1 }
	f := api.CnfFormula{Vars: (holes + 1) * holes}
	for pigeon := range holes + 1 {
		f.Clauses = append(f.Clauses, upTo(in(pigeon, 0), in(pigeon, holes-1)))
	}
	for hole := range holes {
		for b := range holes + 1 {
			for a := range b {
				f.Clauses = append(f.Clauses, clause(-in(a, hole), -in(b, hole)))
			}
		}
	}
	return f
}

// allSigns is the formula with all clauses of exactly these variables, which has no model.
func allSigns(vars int, of []int) api.CnfFormula {
	f := api.CnfFormula{Vars: vars}
	eachSetting(len(of), func(model []int) {
		var literals []int
		for i, v := range of {
			literals = append(literals, v-2*v*model[i])
		}
		f.Clauses = append(f.Clauses, literals)
	})
	return f
}
