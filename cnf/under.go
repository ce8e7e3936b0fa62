package cnf

import (
	"slices"

	"ratchet/api"
)

// Under returns the formula under a literal.
func Under(f api.CnfFormula, literal int) (api.CnfFormula, api.Errno) {
	e := firstError(errorOfFormula(f), errorIf(!isLiteral(f.Vars, literal), api.ErrRange))
	if e != api.OK {
		return api.CnfFormula{}, e
	}
	return api.CnfFormula{Vars: f.Vars, Clauses: under(f.Clauses, literal)}, api.OK
}

// under is the clauses that are left under a literal, in new memory.
func under(clauses [][]int, literal int) [][]int {
	isOpposite := func(l int) bool { return l == -literal }
	var list [][]int
	for _, clause := range clauses {
		if !slices.Contains(clause, literal) {
			list = append(list, slices.DeleteFunc(slices.Clone(clause), isOpposite))
		}
	}
	return list
}

// CountModels returns how many models a formula has.
func CountModels(f api.CnfFormula) (int, api.Errno) {
	e := firstError(errorOfFormula(f), errorIf(f.Vars > api.MaxCnfCount, api.ErrLarge))
	if e != api.OK {
		return 0, e
	}
	return countModels(different(f.Clauses), 1, f.Vars), api.OK
}

// different is the first of all equal clauses. The number of different short clauses is small, which bounds the work of counting, as it is these that stay for long.
func different(clauses [][]int) [][]int {
	known := map[[api.MaxCnfLiterals]int]bool{}
	var list [][]int
	for _, clause := range clauses {
		var key [api.MaxCnfLiterals]int
		copy(key[:], clause)
		if !known[key] {
			known[key] = true
			list = append(list, clause)
		}
	}
	return list
}

// countModels is how many values of the variables from the first to the last one make all clauses true.
func countModels(clauses [][]int, first, last int) int {
	if len(clauses) == 0 {
		return 1 << (last - first + 1)
	}
	if slices.ContainsFunc(clauses, isEmpty) {
		return 0
	}
	return countModels(under(clauses, first), first+1, last) + countModels(under(clauses, -first), first+1, last)
}

func isEmpty(clause []int) bool { return len(clause) == 0 }
