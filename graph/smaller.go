package graph

import (
	"slices"

	"ratchet/api"
)

// likeness is all that makes nodes equal.
type likeness struct {
	op, width, value int
	args             [maxArgs]int
}

func likenessOf(n api.Node) likeness {
	return likeness{n.Op, n.Width, n.Value, argumentsOf(n, func(arg int) int { return arg })}
}

// SharedOf returns the graph with the first of all equal nodes, and which of them stands for each node.
func SharedOf(leaves []int, nodes []api.Node) ([]api.Node, []int, api.Errno) {
	if e := errorOfGraph(leaves, nodes); e != api.OK {
		return nil, nil, e
	}
	var shared []api.Node
	places := make([]int, len(nodes))
	known := map[likeness]int{}
	for i, n := range nodes {
		moved := withArgs(n, func(arg int) int { return places[arg] })
		place, found := known[likenessOf(moved)]
		if !found {
			place = len(shared)
			known[likenessOf(moved)] = place
			shared = append(shared, moved)
		}
		places[i] = place
	}
	return shared, places, api.OK
}

// FoldedOf returns the graph with a constant in place of each node that has only constants as arguments.
func FoldedOf(leaves []int, nodes []api.Node) ([]api.Node, api.Errno) {
	if e := errorOfGraph(leaves, nodes); e != api.OK {
		return nil, e
	}
	folded := make([]api.Node, len(nodes))
	for i, n := range nodes {
		folded[i] = foldedNode(folded[:i], n)
	}
	return folded, api.OK
}

// foldedNode is a node after others, which are folded.
func foldedNode(before []api.Node, n api.Node) api.Node {
	open := slices.ContainsFunc(n.Args, func(arg int) bool { return before[arg].Op != api.OpConst })
	if open || len(n.Args) == 0 {
		return copied(n)
	}
	return constant(n.Width, resultOf(n, argumentsOf(n, func(arg int) api.Bits {
		return api.Bits{Width: before[arg].Width, Value: before[arg].Value}
	})))
}

// ConeOf returns the nodes below some nodes, and where these are among them.
func ConeOf(leaves []int, nodes []api.Node, from []int) ([]api.Node, []int, api.Errno) {
	if e := errorOfFrom(leaves, nodes, from); e != api.OK {
		return nil, nil, e
	}
	cone, places := coneOf(nodes, from)
	return cone, places, api.OK
}

// coneOf is the nodes below some nodes, and where these are among them.
func coneOf(nodes []api.Node, from []int) ([]api.Node, []int) {
	var cone []api.Node
	places := make([]int, len(nodes))
	for i, isBelow := range below(nodes, from) {
		if isBelow {
			places[i] = len(cone)
			cone = append(cone, withArgs(nodes[i], func(arg int) int { return places[arg] }))
		}
	}
	return cone, picked(places, from)
}

// picked is the items with some indexes.
func picked(items, indexes []int) []int {
	list := make([]int, len(indexes))
	for i, index := range indexes {
		list[i] = items[index]
	}
	return list
}

func constant(width, value int) api.Node {
	return api.Node{Op: api.OpConst, Width: width, Value: value}
}

// withArgs is a node with what a function says of its arguments in their place. The arguments of the given node are not touched.
func withArgs(n api.Node, to func(arg int) int) api.Node {
	var args []int
	for _, arg := range n.Args {
		args = append(args, to(arg))
	}
	n.Args = args
	return n
}

// copied is a node that shares no memory with the given one.
func copied(n api.Node) api.Node {
	return withArgs(n, func(arg int) int { return arg })
}
