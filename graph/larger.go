package graph

import "ratchet/api"

// Substituted returns the graph with a constant in place of each node of a leaf.
func Substituted(leaves []int, nodes []api.Node, leaf, value int) ([]api.Node, api.Errno) {
	e := firstError(errorOfGraph(leaves, nodes), errorIf(!isIndex(leaf, len(leaves)), api.ErrMissing))
	if e != api.OK {
		return nil, e
	}
	if !isValue(value, leaves[leaf]) {
		return nil, api.ErrRange
	}
	list := make([]api.Node, len(nodes))
	for i, n := range nodes {
		if n.Op == api.OpLeaf && n.Value == leaf {
			list[i] = constant(n.Width, value)
			continue
		}
		list[i] = copied(n)
	}
	return list, api.OK
}

// Appended returns the nodes of a and then those of b, and the new indexes of these.
func Appended(leaves []int, a, b []api.Node) ([]api.Node, []int, api.Errno) {
	e := firstError(
		errorOfGraph(leaves, a),
		errorOfGraph(leaves, b),
		errorIf(len(a)+len(b) > api.MaxNodes, api.ErrLarge),
	)
	if e != api.OK {
		return nil, nil, e
	}
	var list []api.Node
	for _, n := range a {
		list = append(list, copied(n))
	}
	places := make([]int, len(b))
	for i, n := range b {
		places[i] = len(a) + i
		list = append(list, withArgs(n, func(arg int) int { return places[arg] }))
	}
	return list, places, api.OK
}
