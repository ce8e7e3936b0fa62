package graph_test

import (
	"slices"
	"testing"

	"ratchet/api"
	"ratchet/graph"
)

// eachSetting visits all values of all leaves in lexicographic order, as long as the visit says so.
func eachSetting(leaves []int, visit func(values []int) bool) {
	values := make([]int, len(leaves))
	for {
		if !visit(values) {
			return
		}
		i := len(leaves) - 1
		for i >= 0 && values[i] == power(leaves[i])-1 {
			values[i] = 0
			i--
		}
		if i < 0 {
			return
		}
		values[i]++
	}
}

// eachNarrowGraph visits graphs over few bits.
func eachNarrowGraph(visit func(d *dice, leaves []int, nodes []api.Node)) {
	d := &dice{state: 5}
	for range 300 {
		leaves := d.leaves(3, 3)
		visit(d, leaves, d.graph(leaves, 2+d.roll(14)))
	}
}

// P2.5, P2.10: the first difference of two nodes, over all values of all leaves.
func TestDifference(t *testing.T) {
	counts := map[api.Errno]int{}
	eachNarrowGraph(func(d *dice, leaves []int, nodes []api.Node) {
		for range 6 {
			a, b := d.roll(len(nodes)), d.roll(len(nodes))
			var want []int
			wantError := api.ErrNone
			if nodes[a].Width != nodes[b].Width {
				wantError = api.ErrWidth
			} else {
				eachSetting(leaves, func(values []int) bool {
					v := valuesByHand(nodes, values)
					if v[a] != v[b] {
						want, wantError = slices.Clone(values), api.OK
					}
					return v[a] == v[b]
				})
			}
			counts[wantError]++
			got, e := graph.DifferenceOf(leaves, nodes, a, b)
			if e != wantError || !slices.Equal(got, want) {
				t.Errorf("%d and %d of %v over %v: %v, %d, not %v, %d", a, b, nodes, leaves, got, e, want, wantError)
			}
			if e == api.OK {
				if v, e := graph.ValuesOf(leaves, nodes, got); e != api.OK || v[a] == v[b] {
					t.Errorf("%d and %d of %v by %v: %v, %d", a, b, nodes, got, v, e)
				}
			}
		}
	})
	if counts[api.OK] < 100 || counts[api.ErrNone] < 100 || counts[api.ErrWidth] < 100 {
		t.Errorf("too few of one kind: %v", counts)
	}
}

// P2.10: nodes that are shared to one have no difference.
func TestSharedHaveNoDifference(t *testing.T) {
	pairs := 0
	eachNarrowGraph(func(d *dice, leaves []int, nodes []api.Node) {
		_, places, e := graph.SharedOf(leaves, nodes)
		if e != api.OK {
			t.Fatal(e)
		}
		for a := range nodes {
			for b := range nodes {
				if places[a] != places[b] {
					continue
				}
				pairs += truth(a != b)
				if l, e := graph.DifferenceOf(leaves, nodes, a, b); len(l) != 0 || e != api.ErrNone {
					t.Errorf("%d and %d of %v: %v, %d", a, b, nodes, l, e)
				}
			}
		}
	})
	if pairs < 100 {
		t.Errorf("only %d pairs are shared", pairs)
	}
}

// P2.5: the only value of a node, over all values of all leaves.
func TestConstant(t *testing.T) {
	counts := map[api.Errno]int{}
	eachNarrowGraph(func(d *dice, leaves []int, nodes []api.Node) {
		for node := range nodes {
			known := map[int]bool{}
			eachSetting(leaves, func(values []int) bool {
				known[valuesByHand(nodes, values)[node]] = true
				return true
			})
			got, e := graph.ConstantAt(leaves, nodes, node)
			if len(known) == 1 && (e != api.OK || !known[got]) || len(known) > 1 && (e != api.ErrNone || got != 0) {
				t.Errorf("the node %d of %v over %v: %d, %d, but it has the values %v", node, nodes, leaves, got, e, known)
			}
			counts[e]++
		}
	})
	if counts[api.OK] < 100 || counts[api.ErrNone] < 100 {
		t.Errorf("too few of one kind: %v", counts)
	}
}

// P2.5: example 6, edge cases, and where the first difference is.
func TestAlwaysExamples(t *testing.T) {
	g := append(exampleNodes(), op(api.OpLess, 1, 0, 0))
	differences := []struct {
		name   string
		leaves []int
		nodes  []api.Node
		a, b   int
		values []int
		want   api.Errno
	}{
		{"example 6", exampleLeaves(), g, 0, 2, []int{0, 0}, api.OK},
		{"only if c is 1", exampleLeaves(), g, 0, 4, []int{0, 1}, api.OK},
		{"x below x, and x below 3", exampleLeaves(), append(copyOf(g), op(api.OpLess, 1, 0, 1)), 6, 7, []int{0, 0}, api.OK},
		{"if c is 1, x + 3 below 3, and x below 3", exampleLeaves(), append(copyOf(g), op(api.OpLess, 1, 0, 1)), 5, 7, []int{0, 1}, api.OK},
		{"a node and itself", exampleLeaves(), g, 4, 4, nil, api.ErrNone},
		{"widths", exampleLeaves(), g, 0, 5, nil, api.ErrWidth},
		{"constants", nil, list(con(4, 1), con(4, 2)), 0, 1, nil, api.OK},
		{"equal constants", nil, list(con(4, 2), con(4, 2)), 0, 1, nil, api.ErrNone},
		{"the last of all", []int{2, 1}, list(leaf(2, 0), leaf(1, 1), op(api.OpJoin, 3, 0, 1), con(3, 7), op(api.OpEqual, 1, 2, 3), con(1, 0)), 4, 5, []int{3, 1}, api.OK},
		{"the first leaf counts most", []int{2, 2}, list(leaf(2, 0), leaf(2, 1), op(api.OpOr, 2, 0, 1), con(2, 0)), 2, 3, []int{0, 1}, api.OK},
		{"the order is that of leaves, not of nodes", []int{2, 2}, list(leaf(2, 1), leaf(2, 0), op(api.OpOr, 2, 0, 1), con(2, 0)), 2, 3, []int{0, 1}, api.OK},
		{"leaves that do not matter are 0", []int{16, 2, 16, 2, 16}, list(leaf(2, 3), leaf(2, 1), op(api.OpAnd, 2, 0, 1), con(2, 3), op(api.OpEqual, 1, 2, 3), con(1, 0)), 4, 5, []int{0, 3, 0, 3, 0}, api.OK},
	}
	for _, c := range differences {
		if l, e := graph.DifferenceOf(c.leaves, c.nodes, c.a, c.b); e != c.want || !slices.Equal(l, c.values) {
			t.Errorf("%s: %v, %d, not %v, %d", c.name, l, e, c.values, c.want)
		}
	}
	constants := []struct {
		node, want int
		e          api.Errno
	}{{6, 0, api.OK}, {5, 0, api.ErrNone}, {1, 3, api.OK}, {3, 0, api.ErrNone}}
	for _, c := range constants {
		if v, e := graph.ConstantAt(exampleLeaves(), g, c.node); v != c.want || e != c.e {
			t.Errorf("the node %d: %d, %d", c.node, v, e)
		}
	}
}

// P2.5: as many bits as may be tried, and one more.
func TestAlwaysLarge(t *testing.T) {
	leaves := []int{12, 13, 6, 7}
	nodes := list(
		leaf(12, 0), op(api.OpXor, 12, 0, 0), con(12, 4095), op(api.OpEqual, 1, 0, 2), con(1, 0), // 12 bits: never anything, and 1 for the last value of all
		leaf(13, 1), op(api.OpXor, 13, 5, 5), op(api.OpLess, 1, 5, 5), // 13 bits
		leaf(6, 2), leaf(7, 3), op(api.OpEqual, 1, 8, 8), op(api.OpEqual, 1, 9, 9), op(api.OpJoin, 13, 8, 9), // 6, 7, and both
		leaf(6, 2), op(api.OpJoin, 12, 8, 13), // twice the same leaf
	)
	constants := []struct {
		node, want int
		e          api.Errno
	}{
		{0, 0, api.ErrNone},
		{1, 0, api.OK},
		{2, 4095, api.OK},
		{3, 0, api.ErrNone},
		{5, 0, api.ErrLarge},
		{6, 0, api.ErrLarge},
		{7, 0, api.ErrLarge},
		{10, 1, api.OK},
		{11, 1, api.OK},
		{12, 0, api.ErrLarge},
		{14, 0, api.ErrNone},
	}
	for _, c := range constants {
		if v, e := graph.ConstantAt(leaves, nodes, c.node); v != c.want || e != c.e {
			t.Errorf("the node %d: %d, %d, not %d, %d", c.node, v, e, c.want, c.e)
		}
	}
	differences := []struct {
		name string
		a, b int
		want []int
		e    api.Errno
	}{
		{"12 bits, at the last value of all", 3, 4, []int{4095, 0, 0, 0}, api.OK},
		{"either way round", 4, 3, []int{4095, 0, 0, 0}, api.OK},
		{"12 bits, nowhere", 3, 3, nil, api.ErrNone},
		{"13 bits of a leaf", 6, 5, nil, api.ErrLarge},
		{"13 bits of a node and itself", 7, 7, nil, api.ErrLarge},
		{"13 bits against none", 7, 4, nil, api.ErrLarge},
		{"none against 13 bits", 4, 7, nil, api.ErrLarge},
		{"6 and 7 bits", 10, 11, nil, api.ErrLarge},
		{"6 bits", 10, 4, []int{0, 0, 0, 0}, api.OK},
		{"7 bits", 4, 11, []int{0, 0, 0, 0}, api.OK},
		{"12 and 6 bits", 0, 14, nil, api.ErrLarge},
		{"the same leaf", 8, 13, nil, api.ErrNone},
		{"widths before bits", 5, 0, nil, api.ErrWidth},
	}
	for _, c := range differences {
		if l, e := graph.DifferenceOf(leaves, nodes, c.a, c.b); e != c.e || !slices.Equal(l, c.want) {
			t.Errorf("%s: %v, %d, not %v, %d", c.name, l, e, c.want, c.e)
		}
	}
}
