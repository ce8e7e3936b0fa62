package cnf

import (
	"slices"

	"ratchet/api"
)

// Resolved returns the clauses of all steps of a proof.
func Resolved(f api.CnfFormula, proof []api.CnfStep) ([][]int, api.Errno) {
	clauses, _, e := resolved(f, proof)
	return clauses, e
}

// CheckProof returns the first error of a proof that should refute a formula, with the index of the step that has it.
func CheckProof(f api.CnfFormula, proof []api.CnfStep) (int, api.Errno) {
	clauses, i, e := resolved(f, proof)
	if e != api.OK {
		return i, e
	}
	return 0, errorIf(!refutes(f, clauses), api.ErrOpen)
}

// refutes says whether a proof with these clauses refutes a formula.
func refutes(f api.CnfFormula, clauses [][]int) bool {
	if len(clauses) == 0 {
		return slices.ContainsFunc(f.Clauses, isEmpty)
	}
	return isEmpty(clauses[len(clauses)-1])
}

// resolved is the clauses of all steps of a proof, or the first error of the formula and the proof, with the index of the step that has it.
func resolved(f api.CnfFormula, proof []api.CnfStep) ([][]int, int, api.Errno) {
	e := firstError(errorOfFormula(f), errorIf(len(proof) > api.MaxCnfProof, api.ErrLarge))
	if e != api.OK {
		return nil, 0, e
	}
	clauses := slices.Clone(f.Clauses)
	i, e := firstWrong(proof, func(_ int, step api.CnfStep) api.Errno {
		clause, e := resolvent(f.Vars, clauses, step)
		clauses = append(clauses, clause)
		return e
	})
	if e != api.OK {
		return nil, i, e
	}
	return clauses[len(f.Clauses):], 0, api.OK
}

// resolvent is the clause of a step that takes two of the clauses before it.
func resolvent(vars int, before [][]int, step api.CnfStep) ([]int, api.Errno) {
	if !isIndex(step.First, len(before)) || !isIndex(step.Second, len(before)) {
		return nil, api.ErrMissing
	}
	if !isVariable(vars, step.Var) {
		return nil, api.ErrRange
	}
	first, second := before[step.First], before[step.Second]
	if !slices.Contains(first, step.Var) || !slices.Contains(second, -step.Var) {
		return nil, api.ErrProof
	}
	clause, fits := merged(first, second, step.Var)
	if !fits {
		return nil, api.ErrClash
	}
	return clause, api.OK
}

// merged is the literals of two clauses, of which the first one has a variable and the second one its opposite, without these two, and whether they fit together.
func merged(first, second []int, by int) ([]int, bool) {
	clause := make([]int, 0, len(first)+len(second)-2)
	for len(first) > 0 && len(second) > 0 {
		a, b := first[0], second[0]
		if variableOf(a) <= variableOf(b) {
			first = first[1:]
		}
		if variableOf(b) <= variableOf(a) {
			second = second[1:]
		}
		switch {
		case variableOf(a) < variableOf(b) || a == b:
			clause = append(clause, a)
		case variableOf(b) < variableOf(a):
			clause = append(clause, b)
		case a != by:
			return nil, false
		}
	}
	clause = append(clause, first...)
	return append(clause, second...), true
}

func isIndex(i, count int) bool { return i >= 0 && i < count }
