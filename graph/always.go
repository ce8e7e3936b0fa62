package graph

import (
	"iter"

	"ratchet/api"
)

// DifferenceOf returns the first values of all leaves for which two nodes have different values.
func DifferenceOf(leaves []int, nodes []api.Node, a, b int) ([]int, api.Errno) {
	named := []int{a, b}
	if e := errorOfFrom(leaves, nodes, named); e != api.OK {
		return nil, e
	}
	if nodes[a].Width != nodes[b].Width {
		return nil, api.ErrWidth
	}
	if bitsBelow(leaves, nodes, named) > api.MaxGraphBits {
		return nil, api.ErrLarge
	}
	for ofLeaves, ofNamed := range trials(leaves, nodes, named) {
		if ofNamed[0] != ofNamed[1] {
			return ofLeaves, api.OK
		}
	}
	return nil, api.ErrNone
}

// ConstantAt returns the only value that a node ever has.
func ConstantAt(leaves []int, nodes []api.Node, node int) (int, api.Errno) {
	named := []int{node}
	if e := errorOfFrom(leaves, nodes, named); e != api.OK {
		return 0, e
	}
	if bitsBelow(leaves, nodes, named) > api.MaxGraphBits {
		return 0, api.ErrLarge
	}
	only, known := 0, false
	for _, ofNamed := range trials(leaves, nodes, named) {
		if known && ofNamed[0] != only {
			return 0, api.ErrNone
		}
		only, known = ofNamed[0], true
	}
	return only, api.OK
}

// bitsBelow is how many bits the leaves have together on which some nodes depend.
func bitsBelow(leaves []int, nodes []api.Node, named []int) int {
	bits := 0
	for _, leaf := range leavesBelow(leaves, nodes, named) {
		bits += leaves[leaf]
	}
	return bits
}

// trials yields the values of all leaves, in lexicographic order, with those of some nodes; leaves on which these do not depend stay 0.
func trials(leaves []int, nodes []api.Node, named []int) iter.Seq2[[]int, []int] {
	// Nothing but the cone is computed, as that is done very often.
	cone, places := coneOf(nodes, named)
	used := leavesBelow(leaves, nodes, named)
	return func(yield func(ofLeaves, ofNamed []int) bool) {
		for number := range 1 << bitsBelow(leaves, nodes, named) {
			ofLeaves := trialOf(leaves, used, number)
			if !yield(ofLeaves, picked(valuesOf(cone, ofLeaves), places)) {
				return
			}
		}
	}
}

// trialOf cuts a number into values of the leaves that are used. The first leaf has its highest bits, so that greater numbers are later values in lexicographic order.
func trialOf(leaves, used []int, number int) []int {
	values := make([]int, len(leaves))
	for i := len(used) - 1; i >= 0; i-- {
		width := leaves[used[i]]
		values[used[i]] = number & highest(width)
		number >>= width
	}
	return values
}
