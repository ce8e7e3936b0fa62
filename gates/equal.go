package gates

import (
	"slices"

	"ratchet/api"
	"ratchet/cnf"
	"ratchet/graph"
)

// DifferenceOf returns the first values of all leaves for which two nodes have different values.
func DifferenceOf(leaves []int, nodes []api.Node, a, b int) ([]int, api.Errno) {
	if e := errorOfTwoOfFewBits(leaves, nodes, a, b); e != api.OK {
		return nil, e
	}
	return graph.DifferenceOf(leaves, nodes, a, b)
}

// EqualBy returns a proof that two nodes never differ.
func EqualBy(leaves []int, nodes []api.Node, a, b int) ([]api.CnfStep, api.Errno) {
	miter, f, e := clausesOfTwo(leaves, nodes, a, b)
	if e != api.OK {
		return nil, e
	}
	// Searched for in this order, nothing but the few bits is decided, so that there is fuel enough.
	order := orderOf(miter)
	proof, e := cnf.Refuted(renamed(f, order), api.MaxCnfFuel)
	if e != api.OK {
		return nil, e
	}
	for i, step := range proof {
		proof[i].Var = order[step.Var-1]
	}
	return proof, api.OK
}

// CheckEqual returns the first error of a proof that two nodes never differ, with the index of the step that has it.
func CheckEqual(leaves []int, nodes []api.Node, a, b int, proof []api.CnfStep) (int, api.Errno) {
	_, f, e := clausesOfTwo(leaves, nodes, a, b)
	if e != api.OK {
		return 0, e
	}
	return cnf.CheckProof(f, proof)
}

// clausesOfTwo is the miter of two nodes, and the clauses of its output.
func clausesOfTwo(leaves []int, nodes []api.Node, a, b int) (api.GateGraph, api.CnfFormula, api.Errno) {
	if e := errorOfTwoOfFewBits(leaves, nodes, a, b); e != api.OK {
		return api.GateGraph{}, api.CnfFormula{}, e
	}
	miter := miterOf(leaves, nodes, a, b)
	f, e := ClausesOf(miter, miter.Outputs[0])
	return miter, f, e
}

// orderOf is the points that have a part in a graph, each after those on which it depends. Leaf bits are close to where they are used, which makes proofs about sums short.
func orderOf(g api.GateGraph) []int {
	var order []int
	known := map[int]bool{0: true}
	add := func(literal int) {
		point := pointOf(literal)
		if !known[point] {
			known[point] = true
			order = append(order, point)
		}
	}
	for _, gate := range g.Gates {
		add(gate[0])
		add(gate[1])
	}
	for _, output := range g.Outputs {
		add(output)
	}
	return order
}

// renamed is a formula over variables that are the places, from 1 on, which its own ones have in an order.
func renamed(f api.CnfFormula, order []int) api.CnfFormula {
	names := map[int]int{}
	for i, v := range order {
		names[v], names[-v] = i+1, -i-1
	}
	named := api.CnfFormula{Vars: len(order)}
	for _, clause := range f.Clauses {
		var literals []int
		for _, literal := range clause {
			literals = append(literals, names[literal])
		}
		slices.SortFunc(literals, func(a, b int) int { return max(a, -a) - max(b, -b) })
		named.Clauses = append(named.Clauses, literals)
	}
	return named
}
