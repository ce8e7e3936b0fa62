package cnf

import "ratchet/api"

// none is the index of no clause.
const none = -1

// assignment has for each variable 1 if it is true, -1 if it is false, 0 as long as it is open (the place 0 is not used).
type assignment []int

// truth is 1 if a literal is true, -1 if it is false, 0 if it is open.
func (a assignment) truth(literal int) int {
	if literal < 0 {
		return -a[-literal]
	}
	return a[literal]
}

// become makes a literal true.
func (a assignment) become(literal int) {
	if literal < 0 {
		a[-literal] = -1
		return
	}
	a[literal] = 1
}

// unitOf is the open literal of a clause without a true one and with at most one open one (0 if all of its literals are false), and whether it is such a clause.
func (a assignment) unitOf(clause []int) (int, bool) {
	open := 0
	for _, literal := range clause {
		truth := a.truth(literal)
		if truth > 0 || truth == 0 && open != 0 {
			return 0, false
		}
		if truth == 0 {
			open = literal
		}
	}
	return open, true
}

// firstUnit is the index of the first clause that unitOf accepts, with its open literal (none and 0 if there is no such clause).
func (a assignment) firstUnit(clauses [][]int) (int, int) {
	for i, clause := range clauses {
		if literal, ready := a.unitOf(clause); ready {
			return i, literal
		}
	}
	return none, 0
}

// Propagated returns the literals that are forced if some others are assumed, and the index of the conflict.
func Propagated(f api.CnfFormula, assumed []int) ([]int, int, api.Errno) {
	e := firstError(errorOfFormula(f), errorOfLiterals(f.Vars, assumed, api.MaxCnfVars))
	if e != api.OK {
		return nil, 0, e
	}
	values := make(assignment, f.Vars+1)
	for _, literal := range assumed {
		values.become(literal)
	}
	var forced []int
	for {
		i, literal := values.firstUnit(f.Clauses)
		if literal == 0 {
			return forced, i, api.OK
		}
		values.become(literal)
		forced = append(forced, literal)
	}
}
