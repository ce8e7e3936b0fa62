package cnf

import (
	"slices"

	"ratchet/api"
)

// FirstModel returns the lexicographically first model.
func FirstModel(f api.CnfFormula, fuel int) ([]int, api.Errno) {
	if e := firstError(errorOfFormula(f), errorOfFuel(fuel)); e != api.OK {
		return nil, e
	}
	model, _, e := searched(f.Vars, f.Clauses, fuel)
	return model, e
}

// StepsFor returns how many steps the search for a model takes.
func StepsFor(f api.CnfFormula, fuel int) (int, api.Errno) {
	if e := firstError(errorOfFormula(f), errorOfFuel(fuel)); e != api.OK {
		return 0, e
	}
	_, steps, e := searched(f.Vars, f.Clauses, fuel)
	if e == api.ErrFuel {
		return 0, e
	}
	return steps, api.OK
}

// FollowsFrom returns whether a clause follows from a formula.
func FollowsFrom(f api.CnfFormula, clause []int, fuel int) (bool, api.Errno) {
	e := firstError(errorOfFormula(f), errorOfClause(f.Vars, clause), errorOfFuel(fuel))
	if e != api.OK {
		return false, e
	}
	clauses := slices.Clone(f.Clauses)
	for _, literal := range clause {
		clauses = append(clauses, []int{-literal})
	}
	_, _, e = searched(f.Vars, clauses, fuel)
	if e == api.ErrFuel {
		return false, e
	}
	return e == api.ErrNone, api.OK
}

// searched is the first model of clauses, with the steps of the search for it; without a model the error is ErrNone, and the steps are those of the search, too.
func searched(vars int, clauses [][]int, fuel int) ([]int, int, api.Errno) {
	t := newTrail(vars, clauses)
	conflict := t.begin()
	for steps := 0; ; steps++ {
		literal := t.nextDecision(conflict)
		switch {
		case literal == 0 && conflict == none:
			return t.model(), steps, api.OK
		case literal == 0:
			return nil, steps, api.ErrNone
		case steps == fuel:
			return nil, 0, api.ErrFuel
		}
		conflict = t.decide(literal)
	}
}

// nextDecision is the literal that the search decides for next, after it has gone back if there is a conflict (0 if nothing is left to decide).
func (t *trail) nextDecision(conflict int) int {
	if conflict == none {
		return -t.firstOpen()
	}
	for len(t.decisions) > 0 {
		place := t.decisions[len(t.decisions)-1]
		literal := t.literals[place]
		t.backTo(place)
		if literal < 0 {
			return -literal
		}
	}
	return 0
}

// model is the values of all variables, which must have one.
func (t *trail) model() []int {
	model := make([]int, t.vars())
	for i := range model {
		model[i] = max(t.values[i+1], 0)
	}
	return model
}
