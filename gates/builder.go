package gates

import (
	"slices"

	"ratchet/api"
)

// builder is a graph that grows gate by gate, without gates that can be spared at once.
type builder struct {
	api.GateGraph
	known map[[2]int]int // by the literals of all gates, the lower one first, those of the gates
}

func newBuilder(leaves int) *builder {
	return &builder{GateGraph: api.GateGraph{Leaves: leaves}, known: map[[2]int]int{}}
}

// and is the literal that is 1 if both are.
func (b *builder) and(x, y int) int {
	low, high := min(x, y), max(x, y)
	switch {
	case low == 0 || low == opposite(high):
		return 0
	case low == 1 || low == high:
		return high
	}
	both := [2]int{low, high}
	literal, found := b.known[both]
	if !found {
		literal = literalOf(pointsOf(b.GateGraph))
		b.known[both] = literal
		b.Gates = append(b.Gates, both)
	}
	return literal
}

// or is the literal that is 1 if one of both is.
func (b *builder) or(x, y int) int {
	return opposite(b.and(opposite(x), opposite(y)))
}

// xor is the literal that is 1 if both differ.
func (b *builder) xor(x, y int) int {
	both, neither := b.and(x, y), b.and(opposite(x), opposite(y))
	return b.and(opposite(both), opposite(neither))
}

// graphWith is what has been built that some outputs need.
func (b *builder) graphWith(outputs []int) api.GateGraph {
	b.Outputs = outputs
	needed := neededIn(b.GateGraph)
	g := api.GateGraph{Leaves: b.Leaves}
	stands := alongGates(b.GateGraph, firstLiterals(g), func(known []int, gate [2]int) int {
		if !needed[len(known)] {
			return 0
		}
		g.Gates = append(g.Gates, [2]int{through(known, gate[0]), through(known, gate[1])})
		return literalOf(pointsOf(g) - 1)
	})
	g.Outputs = throughAll(stands, outputs)
	return g
}

// neededIn says of each point whether an output depends on it.
func neededIn(g api.GateGraph) []bool {
	needed := make([]bool, pointsOf(g))
	for _, output := range g.Outputs {
		needed[pointOf(output)] = true
	}
	first := firstGate(g)
	for i, gate := range slices.Backward(g.Gates) {
		if needed[first+i] {
			needed[pointOf(gate[0])] = true
			needed[pointOf(gate[1])] = true
		}
	}
	return needed
}

// firstLiterals is the literals of the constant and the leaf bits.
func firstLiterals(g api.GateGraph) []int {
	var literals []int
	for point := range firstGate(g) {
		literals = append(literals, literalOf(point))
	}
	return literals
}

// Cleaned returns the graph without gates that can be spared at once, or on which no output depends.
func Cleaned(g api.GateGraph) (api.GateGraph, api.Errno) {
	if e := errorOfGates(g); e != api.OK {
		return api.GateGraph{}, e
	}
	b := newBuilder(g.Leaves)
	stands := alongGates(g, firstLiterals(g), func(known []int, gate [2]int) int {
		return b.and(through(known, gate[0]), through(known, gate[1]))
	})
	return b.graphWith(throughAll(stands, g.Outputs)), api.OK
}
