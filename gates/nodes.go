package gates

import (
	"ratchet/api"
	"ratchet/graph"
)

// GatesOf returns the graph of a node.
func GatesOf(leaves []int, nodes []api.Node, root int) (api.GateGraph, api.Errno) {
	if e := firstError(errorOfNodes(leaves, nodes), errorOfNode(nodes, root)); e != api.OK {
		return api.GateGraph{}, e
	}
	b, words := built(leaves, nodes, root)
	return b.graphWith(words[root]), api.OK
}

// MiterOf returns the graph that says whether two nodes differ.
func MiterOf(leaves []int, nodes []api.Node, a, b int) (api.GateGraph, api.Errno) {
	if e := errorOfTwo(leaves, nodes, a, b); e != api.OK {
		return api.GateGraph{}, e
	}
	return miterOf(leaves, nodes, a, b), api.OK
}

// miterOf is the miter of two nodes, which have no error.
func miterOf(leaves []int, nodes []api.Node, a, b int) api.GateGraph {
	miter, words := built(leaves, nodes, a, b)
	return miter.graphWith([]int{miter.differ(words[a], words[b])})
}

// built is the gates of some nodes, and the words of all nodes below them.
func built(leaves []int, nodes []api.Node, named ...int) (*builder, []word) {
	b := newBuilder(bitsOf(leaves))
	makers := b.makers(leaves)
	words := make([]word, len(nodes))
	below, _ := graph.BelowOf(leaves, nodes, named)
	for _, i := range below {
		n := nodes[i]
		var args []word
		for _, arg := range n.Args {
			args = append(args, words[arg])
		}
		words[i] = makers[n.Op](n, args)
	}
	return b, words
}

func errorOfNodes(leaves []int, nodes []api.Node) api.Errno {
	_, e := graph.CheckNodes(leaves, nodes)
	return firstError(e, errorIf(len(nodes) > api.MaxGateNodes, api.ErrLarge))
}

func errorOfNode(nodes []api.Node, node int) api.Errno {
	return errorIf(!isIndex(node, len(nodes)), api.ErrMissing)
}

// errorOfTwo is the error of two nodes, which may depend on any number of bits.
func errorOfTwo(leaves []int, nodes []api.Node, a, b int) api.Errno {
	e := firstError(errorOfNodes(leaves, nodes), errorOfNode(nodes, a), errorOfNode(nodes, b))
	if e != api.OK {
		return e
	}
	return errorIf(nodes[a].Width != nodes[b].Width, api.ErrWidth)
}

// errorOfTwoOfFewBits is the error of two nodes.
func errorOfTwoOfFewBits(leaves []int, nodes []api.Node, a, b int) api.Errno {
	if e := errorOfTwo(leaves, nodes, a, b); e != api.OK {
		return e
	}
	var widths []int
	below, _ := graph.LeavesOf(leaves, nodes, []int{a, b})
	for _, leaf := range below {
		widths = append(widths, leaves[leaf])
	}
	return errorIf(bitsOf(widths) > api.MaxGateBits, api.ErrLarge)
}
