package gates

import "ratchet/api"

// ClausesOf returns the clauses of a literal.
func ClausesOf(g api.GateGraph, literal int) (api.CnfFormula, api.Errno) {
	f := api.CnfFormula{Vars: pointsOf(g) - 1}
	e := firstError(
		errorOfGates(g),
		errorOfLiteral(g, literal),
		errorOfForm(g),
		// Three clauses for each of so few gates are not too many.
		errorIf(f.Vars > api.MaxCnfVars, api.ErrLarge),
	)
	if e != api.OK {
		return api.CnfFormula{}, e
	}
	for i, gate := range g.Gates {
		v := firstGate(g) + i
		a, b := signedOf(gate[0]), signedOf(gate[1])
		low, high := signedOf(min(gate[0], gate[1])), signedOf(max(gate[0], gate[1]))
		f.Clauses = append(f.Clauses, []int{a, -v}, []int{b, -v}, []int{-low, -high, v})
	}
	switch literal {
	case 0:
		f.Clauses = append(f.Clauses, nil)
	case 1:
		// It holds anyway.
	default:
		f.Clauses = append(f.Clauses, []int{signedOf(literal)})
	}
	return f, api.OK
}

// signedOf is the literal of a formula for a literal of a graph that is no constant.
func signedOf(literal int) int {
	if literal&1 == 1 {
		return -pointOf(literal)
	}
	return pointOf(literal)
}
