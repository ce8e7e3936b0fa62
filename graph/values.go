package graph

import "ratchet/api"

// ValuesOf returns the values of all nodes.
func ValuesOf(leaves []int, nodes []api.Node, values []int) ([]int, api.Errno) {
	if e := errorOfGraph(leaves, nodes); e != api.OK {
		return nil, e
	}
	if e := errorOfValues(leaves, values); e != api.OK {
		return nil, e
	}
	return valuesOf(nodes, values), api.OK
}

// errorOfValues is the error of values of leaves, which have none themselves.
func errorOfValues(leaves, values []int) api.Errno {
	if len(values) != len(leaves) {
		return api.ErrShape
	}
	_, e := firstWrong(values, func(i, value int) api.Errno { return errorIf(!isValue(value, leaves[i]), api.ErrRange) })
	return e
}

// valuesOf is the values of all nodes, which have no errors.
func valuesOf(nodes []api.Node, ofLeaves []int) []int {
	values := make([]int, len(nodes))
	for i, n := range nodes {
		if n.Op == api.OpLeaf {
			values[i] = ofLeaves[n.Value]
			continue
		}
		values[i] = resultOf(n, argumentsOf(n, func(arg int) api.Bits {
			return api.Bits{Width: nodes[arg].Width, Value: values[arg]}
		}))
	}
	return values
}

// BelowOf returns the indexes of all nodes that are below some nodes.
func BelowOf(leaves []int, nodes []api.Node, from []int) ([]int, api.Errno) {
	if e := errorOfFrom(leaves, nodes, from); e != api.OK {
		return nil, e
	}
	return chosen(below(nodes, from)), api.OK
}

// LeavesOf returns the indexes of all leaves on which some nodes depend.
func LeavesOf(leaves []int, nodes []api.Node, from []int) ([]int, api.Errno) {
	if e := errorOfFrom(leaves, nodes, from); e != api.OK {
		return nil, e
	}
	return leavesBelow(leaves, nodes, from), api.OK
}

// leavesBelow is the leaves of all leaf nodes that are below some nodes.
func leavesBelow(leaves []int, nodes []api.Node, from []int) []int {
	used := make([]bool, len(leaves))
	for i, isBelow := range below(nodes, from) {
		if isBelow && nodes[i].Op == api.OpLeaf {
			used[nodes[i].Value] = true
		}
	}
	return chosen(used)
}

// below says of each node whether it is below some nodes.
func below(nodes []api.Node, from []int) []bool {
	marks := make([]bool, len(nodes))
	for _, i := range from {
		marks[i] = true
	}
	// Arguments are before their nodes, so that each node is marked before it is looked at.
	for i := len(nodes) - 1; i >= 0; i-- {
		if !marks[i] {
			continue
		}
		for _, arg := range nodes[i].Args {
			marks[arg] = true
		}
	}
	return marks
}

// chosen is the indexes of all marks that are set.
func chosen(marks []bool) []int {
	var indexes []int
	for i, set := range marks {
		if set {
			indexes = append(indexes, i)
		}
	}
	return indexes
}

// DepthsOf returns the depths of all nodes.
func DepthsOf(leaves []int, nodes []api.Node) ([]int, api.Errno) {
	if e := errorOfGraph(leaves, nodes); e != api.OK {
		return nil, e
	}
	depths := make([]int, len(nodes))
	for i, n := range nodes {
		for _, arg := range n.Args {
			depths[i] = max(depths[i], depths[arg]+1)
		}
	}
	return depths, api.OK
}
