package cnf

import (
	"math/bits"
	"slices"

	"ratchet/api"
)

// CoreOf returns the indexes of the first of all smallest sets of clauses that have no model.
func CoreOf(f api.CnfFormula) ([]int, api.Errno) {
	e := firstError(errorOfFormula(f), errorIf(len(f.Clauses) > api.MaxCnfCore, api.ErrLarge))
	if e != api.OK {
		return nil, e
	}
	if hasModel(f.Clauses) {
		return nil, api.ErrNone
	}
	// Going down, of two sets of as many clauses the one that is lexicographically first is met first.
	all := 1<<len(f.Clauses) - 1
	core := all
	for set := all; set > 0; set-- {
		smaller := bits.OnesCount(uint(set)) < bits.OnesCount(uint(core))
		if smaller && !hasModel(picked(f.Clauses, indexesOf(set, len(f.Clauses)))) {
			core = set
		}
	}
	return indexesOf(core, len(f.Clauses)), api.OK
}

// indexesOf is the indexes of a set of items, in which the first item has the highest bit.
func indexesOf(set, count int) []int {
	var indexes []int
	for i := range count {
		if set>>(count-1-i)&1 == 1 {
			indexes = append(indexes, i)
		}
	}
	return indexes
}

// picked is the items with some indexes.
func picked[T any](items []T, indexes []int) []T {
	var list []T
	for _, i := range indexes {
		list = append(list, items[i])
	}
	return list
}

// hasModel says whether clauses have a model. Each of both ways that it tries leaves out a clause, so that it ends soon for few clauses, however many variables they have.
func hasModel(clauses [][]int) bool {
	if len(clauses) == 0 {
		return true
	}
	if slices.ContainsFunc(clauses, isEmpty) {
		return false
	}
	literal := clauses[0][0]
	if hasModel(under(clauses, literal)) {
		return true
	}
	// If no clause has the opposite, the literal cannot do harm, and there is no second way.
	hasOpposite := func(clause []int) bool { return slices.Contains(clause, -literal) }
	return slices.ContainsFunc(clauses, hasOpposite) && hasModel(under(clauses, -literal))
}
