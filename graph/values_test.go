package graph_test

import (
	"math"
	"slices"
	"testing"

	"ratchet/api"
	"ratchet/graph"
)

// bitOf is a bit of a value, without shifts.
func bitOf(value, i int) int { return value / power(i) % 2 }

// modulo is the remainder that is not negative.
func modulo(n, width int) int { return (n%power(width) + power(width)) % power(width) }

// signedByHand is a value as a two's complement.
func signedByHand(value, width int) int {
	if value >= power(width-1) {
		return value - power(width)
	}
	return value
}

func truth(set bool) int {
	if set {
		return 1
	}
	return 0
}

// resultByHand is the value of a node with arguments that have these widths and values: the chapter's table.
func resultByHand(n api.Node, widths, a []int) int {
	bitwise := func(bit func(i int) int) int {
		value := 0
		for i := range n.Width {
			value += bit(i) * power(i)
		}
		return value
	}
	switch n.Op {
	case api.OpNot:
		return bitwise(func(i int) int { return 1 - bitOf(a[0], i) })
	case api.OpAnd:
		return bitwise(func(i int) int { return bitOf(a[0], i) * bitOf(a[1], i) })
	case api.OpOr:
		return bitwise(func(i int) int { return max(bitOf(a[0], i), bitOf(a[1], i)) })
	case api.OpXor:
		return bitwise(func(i int) int { return (bitOf(a[0], i) + bitOf(a[1], i)) % 2 })
	case api.OpAdd:
		return modulo(a[0]+a[1], n.Width)
	case api.OpSub:
		return modulo(a[0]-a[1], n.Width)
	case api.OpMul:
		return modulo(a[0]*a[1], n.Width)
	case api.OpEqual:
		return truth(a[0] == a[1])
	case api.OpLess:
		return truth(a[0] < a[1])
	case api.OpLessSigned:
		return truth(signedByHand(a[0], widths[0]) < signedByHand(a[1], widths[1]))
	case api.OpMux:
		return a[2-a[0]]
	case api.OpJoin:
		return a[0]*power(widths[1]) + a[1]
	case api.OpSlice:
		return modulo(a[0]/power(n.Value), n.Width)
	case api.OpExtend:
		return a[0]
	case api.OpExtendSigned:
		return modulo(signedByHand(a[0], widths[0]), n.Width)
	case api.OpShiftLeft:
		if a[1] >= n.Width {
			return 0
		}
		return modulo(a[0]*power(a[1]), n.Width)
	}
	if a[1] >= n.Width {
		return 0
	}
	return a[0] / power(a[1])
}

// valuesByHand is the values of nodes by the chapter's table.
func valuesByHand(nodes []api.Node, ofLeaves []int) []int {
	values := make([]int, len(nodes))
	for i, n := range nodes {
		switch n.Op {
		case api.OpConst:
			values[i] = n.Value
		case api.OpLeaf:
			values[i] = ofLeaves[n.Value]
		default:
			var widths, args []int
			for _, arg := range n.Args {
				widths = append(widths, nodes[arg].Width)
				args = append(args, values[arg])
			}
			values[i] = resultByHand(n, widths, args)
		}
	}
	return values
}

// dice is a row of numbers that look as if they were random, always the same.
type dice struct{ state uint64 }

// roll is a number below another one.
func (d *dice) roll(below int) int {
	d.state = d.state*6364136223846793005 + 1442695040888963407
	return int(d.state >> 33 % uint64(below))
}

// leaves is some leaves, at least one, with at most so many bits each.
func (d *dice) leaves(count, width int) []int {
	l := make([]int, 1+d.roll(count))
	for i := range l {
		l[i] = 1 + d.roll(width)
	}
	return l
}

// values is values of leaves.
func (d *dice) values(leaves []int) []int {
	l := make([]int, len(leaves))
	for i, width := range leaves {
		l[i] = d.roll(power(width))
	}
	return l
}

// graph is a valid graph with as many nodes, with all operations and with equal nodes among them.
func (d *dice) graph(leaves []int, count int) []api.Node {
	var nodes []api.Node
	for len(nodes) < count {
		n := api.Node{Op: d.roll(api.OpCount), Width: 1 + d.roll(8)}
		switch {
		case n.Op == api.OpConst:
			n.Value = d.roll(power(n.Width))
		case n.Op == api.OpLeaf:
			n.Value = d.roll(len(leaves))
			n.Width = leaves[n.Value]
		case len(nodes) == 0:
			continue
		default:
			for range argCounts[n.Op] {
				n.Args = append(n.Args, d.roll(len(nodes)))
			}
			if n.Op == api.OpSlice {
				n.Value = d.roll(4)
			}
			if d.roll(4) > 0 { // mostly the width that the first or the last argument asks for
				n.Width = nodes[n.Args[d.roll(len(n.Args))]].Width
			}
			switch n.Op {
			case api.OpEqual, api.OpLess, api.OpLessSigned:
				n.Width = 1
			case api.OpJoin:
				n.Width = nodes[n.Args[0]].Width + nodes[n.Args[1]].Width
			}
		}
		if _, e := graph.CheckNodes(leaves, append(slices.Clone(nodes), n)); e == api.OK {
			nodes = append(nodes, n)
		}
	}
	return nodes
}

// eachGraph visits many small graphs with values of their leaves.
func eachGraph(visit func(d *dice, leaves []int, nodes []api.Node, values []int)) {
	d := &dice{state: 2}
	for range 600 {
		leaves := d.leaves(4, 4)
		nodes := d.graph(leaves, 1+d.roll(25))
		visit(d, leaves, nodes, d.values(leaves))
	}
}

// The graphs of the tests have all operations, or they test nothing.
func TestGraphsHaveAll(t *testing.T) {
	counts := [api.OpCount]int{}
	eachGraph(func(d *dice, leaves []int, nodes []api.Node, values []int) {
		for _, n := range nodes {
			counts[n.Op]++
		}
	})
	for kind, count := range counts {
		if count < 50 {
			t.Errorf("the operation %d is only in %d nodes", kind, count)
		}
	}
}

// P2.2: whole graphs.
func TestValuesOfGraphs(t *testing.T) {
	eachGraph(func(d *dice, leaves []int, nodes []api.Node, values []int) {
		want := valuesByHand(nodes, values)
		if got, e := graph.ValuesOf(leaves, nodes, values); e != api.OK || !slices.Equal(got, want) {
			t.Errorf("%v over %v by %v: %v, %d, not %v", nodes, leaves, values, got, e, want)
		}
	})
}

// someValues is all values of narrow widths, and those at the edges of wide ones with some in between.
func someValues(width int) []int {
	var l []int
	if width <= 4 {
		for value := range power(width) {
			l = append(l, value)
		}
		return l
	}
	half, top := power(width-1), power(width)
	return []int{0, 1, 2, width - 1, width, width + 1, half / 3, half - 1, half, half + 1, top - half/5, top - 2, top - 1}
}

// P2.2: each operation with arguments of all widths, at all edges.
func TestValuesOfOperations(t *testing.T) {
	check := func(n api.Node, widths []int, values []int) {
		nodes := []api.Node{}
		for i, width := range widths {
			nodes = append(nodes, leaf(width, i))
			n.Args = append(n.Args, i)
		}
		want := resultByHand(n, widths, values)
		got, e := graph.ValuesOf(widths, append(nodes, n), values)
		if e != api.OK || got[len(widths)] != want {
			t.Errorf("%v of %v with the widths %v: %v, %d, not %d", n, values, widths, got, e, want)
		}
	}
	for w := 1; w <= api.MaxWidth; w++ {
		for _, x := range someValues(w) {
			check(op(api.OpNot, w), []int{w}, []int{x})
			for to := w; to <= api.MaxWidth; to++ {
				check(op(api.OpExtend, to), []int{w}, []int{x})
				check(op(api.OpExtendSigned, to), []int{w}, []int{x})
			}
			for low := range w {
				for width := 1; low+width <= w; width++ {
					check(slice(width, low), []int{w}, []int{x})
				}
			}
			for _, y := range someValues(w) {
				for kind := api.OpAnd; kind <= api.OpMul; kind++ {
					check(op(kind, w), []int{w, w}, []int{x, y})
				}
				for kind := api.OpEqual; kind <= api.OpLessSigned; kind++ {
					check(op(kind, 1), []int{w, w}, []int{x, y})
				}
				for c := range 2 {
					check(op(api.OpMux, w), []int{1, w, w}, []int{c, x, y})
				}
			}
			for v := 1; v <= api.MaxWidth; v++ {
				for _, y := range someValues(v) {
					check(op(api.OpShiftLeft, w), []int{w, v}, []int{x, y})
					check(op(api.OpShiftRight, w), []int{w, v}, []int{x, y})
					if w+v <= api.MaxWidth {
						check(op(api.OpJoin, w+v), []int{w, v}, []int{x, y})
					}
				}
			}
		}
	}
}

// P2.2: numbers that are worked out, not computed (examples 1 and 8, edge cases).
func TestValuesExamples(t *testing.T) {
	cases := []struct {
		name   string
		leaves []int
		nodes  []api.Node
		values []int
		want   []int
	}{
		{"c is 1", exampleLeaves(), exampleNodes(), []int{14, 1}, []int{14, 3, 1, 1, 1, 1}},
		{"c is 0", exampleLeaves(), exampleNodes(), []int{14, 0}, []int{14, 3, 1, 0, 14, 0}},
		{"example 8", nil, list(con(4, 9), con(4, 3), op(api.OpLessSigned, 1, 0, 1), op(api.OpExtendSigned, 8, 0), con(1, 1), op(api.OpShiftLeft, 4, 0, 4), op(api.OpShiftRight, 4, 0, 1)), nil, []int{9, 3, 1, 249, 1, 2, 1}},
		{"no nodes", []int{16, 16}, nil, []int{65535, 0}, nil},
		{"the minimum minus 1", nil, list(con(8, 128), con(8, 1), op(api.OpSub, 8, 0, 1), op(api.OpLessSigned, 1, 0, 2), op(api.OpLess, 1, 0, 2)), nil, []int{128, 1, 127, 1, 0}},
		{"a shift by 16 and more", []int{16, 16}, list(leaf(16, 0), leaf(16, 1), op(api.OpShiftLeft, 16, 0, 1), op(api.OpShiftRight, 16, 0, 1), op(api.OpShiftRight, 16, 1, 1)), []int{65535, 16}, []int{65535, 16, 0, 0, 0}},
		{"a shift by 65535", []int{16}, list(leaf(16, 0), op(api.OpShiftLeft, 16, 0, 0), op(api.OpShiftRight, 16, 0, 0)), []int{65535}, []int{65535, 0, 0}},
		{"a shift by the width", nil, list(con(4, 15), con(4, 4), con(4, 3), op(api.OpShiftLeft, 4, 0, 1), op(api.OpShiftRight, 4, 0, 1), op(api.OpShiftLeft, 4, 0, 2), op(api.OpShiftRight, 4, 0, 2)), nil, []int{15, 4, 3, 0, 0, 8, 1}},
		{"joined and cut", nil, list(con(3, 5), con(5, 6), op(api.OpJoin, 8, 0, 1), slice(3, 5, 2), slice(5, 0, 2), slice(1, 7, 2)), nil, []int{5, 6, 166, 5, 6, 1}},
		{"bits", nil, list(con(4, 12), con(4, 10), op(api.OpAnd, 4, 0, 1), op(api.OpOr, 4, 0, 1), op(api.OpXor, 4, 0, 1), op(api.OpNot, 4, 0)), nil, []int{12, 10, 8, 14, 6, 3}},
		{"a product", nil, list(con(16, 65535), op(api.OpMul, 16, 0, 0)), nil, []int{65535, 1}},
		{"one bit with a sign", nil, list(con(1, 1), con(1, 0), op(api.OpLessSigned, 1, 0, 1), op(api.OpLess, 1, 0, 1), op(api.OpExtendSigned, 16, 0), op(api.OpExtend, 16, 0)), nil, []int{1, 0, 1, 0, 65535, 1}},
	}
	for _, c := range cases {
		if got, e := graph.ValuesOf(c.leaves, c.nodes, c.values); e != api.OK || !slices.Equal(got, c.want) {
			t.Errorf("%s: %v, %d, not %v", c.name, got, e, c.want)
		}
	}
}

// P2.2
func TestValuesErrors(t *testing.T) {
	cases := []struct {
		values []int
		want   api.Errno
	}{
		{nil, api.ErrShape},
		{[]int{14}, api.ErrShape},
		{[]int{14, 1, 0}, api.ErrShape},
		{[]int{99, 1, 0}, api.ErrShape},
		{[]int{16, 1}, api.ErrRange},
		{[]int{-1, 1}, api.ErrRange},
		{[]int{15, 2}, api.ErrRange},
		{[]int{15, math.MinInt}, api.ErrRange},
		{[]int{math.MaxInt, 1}, api.ErrRange},
		{[]int{15, 1}, api.OK},
		{[]int{0, 0}, api.OK},
	}
	for _, c := range cases {
		l, e := graph.ValuesOf(exampleLeaves(), exampleNodes(), c.values)
		if e != c.want || e != api.OK && len(l) != 0 {
			t.Errorf("values %v: %v, %d, not %d", c.values, l, e, c.want)
		}
	}
	// A leaf that no node uses has a value, too.
	if l, e := graph.ValuesOf([]int{1, 2}, nil, []int{1, 4}); len(l) != 0 || e != api.ErrRange {
		t.Error(l, e)
	}
}

// belowByHand says whether a node is below another one.
func belowByHand(nodes []api.Node, i, from int) bool {
	return i == from || slices.ContainsFunc(nodes[from].Args, func(arg int) bool { return belowByHand(nodes, i, arg) })
}

// depthByHand is the depth of a node.
func depthByHand(nodes []api.Node, i int) int {
	depth := 0
	for _, arg := range nodes[i].Args {
		depth = max(depth, 1+depthByHand(nodes, arg))
	}
	return depth
}

// P2.2: the nodes and leaves below some nodes, and the depths.
func TestBelowAndDepths(t *testing.T) {
	eachGraph(func(d *dice, leaves []int, nodes []api.Node, values []int) {
		var from, wantBelow, wantLeaves, wantDepths []int
		for range d.roll(4) {
			from = append(from, d.roll(len(nodes)))
		}
		for i := range nodes {
			wantDepths = append(wantDepths, depthByHand(nodes, i))
			if slices.ContainsFunc(from, func(f int) bool { return belowByHand(nodes, i, f) }) {
				wantBelow = append(wantBelow, i)
			}
		}
		for index := range leaves {
			if slices.ContainsFunc(wantBelow, func(i int) bool { return nodes[i].Op == api.OpLeaf && nodes[i].Value == index }) {
				wantLeaves = append(wantLeaves, index)
			}
		}
		if l, e := graph.BelowOf(leaves, nodes, from); e != api.OK || !slices.Equal(l, wantBelow) {
			t.Errorf("below %v of %v: %v, %d, not %v", from, nodes, l, e, wantBelow)
		}
		if l, e := graph.LeavesOf(leaves, nodes, from); e != api.OK || !slices.Equal(l, wantLeaves) {
			t.Errorf("leaves of %v of %v: %v, %d, not %v", from, nodes, l, e, wantLeaves)
		}
		if l, e := graph.DepthsOf(leaves, nodes); e != api.OK || !slices.Equal(l, wantDepths) {
			t.Errorf("depths of %v: %v, %d, not %v", nodes, l, e, wantDepths)
		}
	})
}

// P2.2: example 2, and names in any order and more than once.
func TestBelowExamples(t *testing.T) {
	cases := []struct{ from, below, leaves []int }{
		{nil, nil, nil},
		{[]int{5}, []int{0, 1, 2, 3, 4, 5}, []int{0, 1}},
		{[]int{2}, []int{0, 1, 2}, []int{0}},
		{[]int{1}, []int{1}, nil},
		{[]int{3, 2}, []int{0, 1, 2, 3}, []int{0, 1}},
		{[]int{3, 1, 3}, []int{1, 3}, []int{1}},
	}
	for _, c := range cases {
		if l, e := graph.BelowOf(exampleLeaves(), exampleNodes(), c.from); e != api.OK || !slices.Equal(l, c.below) {
			t.Errorf("below %v: %v, %d", c.from, l, e)
		}
		if l, e := graph.LeavesOf(exampleLeaves(), exampleNodes(), c.from); e != api.OK || !slices.Equal(l, c.leaves) {
			t.Errorf("leaves of %v: %v, %d", c.from, l, e)
		}
	}
	// The leaves ascend, whatever the order of their nodes is, and each is named once.
	mixed := list(leaf(2, 2), leaf(1, 0), leaf(2, 2), con(1, 0))
	if l, e := graph.LeavesOf([]int{1, 5, 2}, mixed, []int{0, 1, 2, 3}); e != api.OK || !slices.Equal(l, []int{0, 2}) {
		t.Error(l, e)
	}
	if l, e := graph.DepthsOf(exampleLeaves(), exampleNodes()); e != api.OK || !slices.Equal(l, []int{0, 0, 1, 0, 2, 3}) {
		t.Error(l, e)
	}
}

// P2.2: the deepest graph.
func TestDeepest(t *testing.T) {
	nodes := list(leaf(1, 0))
	for i := range api.MaxNodes - 1 {
		nodes = append(nodes, op(api.OpXor, 1, i, i))
	}
	last := api.MaxNodes - 1
	if l, e := graph.DepthsOf([]int{1}, nodes); e != api.OK || l[last] != last {
		t.Error(l, e)
	}
	if l, e := graph.BelowOf([]int{1}, nodes, []int{last}); e != api.OK || len(l) != api.MaxNodes {
		t.Error(l, e)
	}
}

// P2.9: leaves that are not below a node do not change its value.
func TestWhatMatters(t *testing.T) {
	eachGraph(func(d *dice, leaves []int, nodes []api.Node, values []int) {
		node := d.roll(len(nodes))
		used, e := graph.LeavesOf(leaves, nodes, []int{node})
		if e != api.OK {
			t.Fatal(e)
		}
		other := d.values(leaves)
		for _, i := range used {
			other[i] = values[i]
		}
		a, e := graph.ValuesOf(leaves, nodes, values)
		b, e2 := graph.ValuesOf(leaves, nodes, other)
		if e != api.OK || e2 != api.OK || a[node] != b[node] {
			t.Errorf("node %d of %v: %d by %v, %d by %v", node, nodes, a[node], values, b[node], other)
		}
	})
}
