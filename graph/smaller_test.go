package graph_test

import (
	"slices"
	"testing"

	"ratchet/api"
	"ratchet/graph"
)

// equalNodes says whether two nodes are equal.
func equalNodes(a, b api.Node) bool { return sameNodes(list(a), list(b)) }

// sharedByHand compares each node with all before it.
func sharedByHand(nodes []api.Node) ([]api.Node, []int) {
	var shared []api.Node
	var places []int
	for _, n := range copyOf(nodes) {
		for i, arg := range n.Args {
			n.Args[i] = places[arg]
		}
		place := slices.IndexFunc(shared, func(m api.Node) bool { return equalNodes(m, n) })
		if place < 0 {
			place = len(shared)
			shared = append(shared, n)
		}
		places = append(places, place)
	}
	return shared, places
}

// P2.3, P2.7, P2.8: shared.
func TestShared(t *testing.T) {
	merged := 0
	eachGraph(func(d *dice, leaves []int, nodes []api.Node, values []int) {
		want, wantPlaces := sharedByHand(nodes)
		shared, places, e := graph.SharedOf(leaves, nodes)
		if e != api.OK || !sameNodes(shared, want) || !slices.Equal(places, wantPlaces) {
			t.Fatalf("%v: %v, %v, %d, not %v, %v", nodes, shared, places, e, want, wantPlaces)
		}
		merged += len(nodes) - len(shared)
		before, _ := graph.ValuesOf(leaves, nodes, values)
		after, e := graph.ValuesOf(leaves, shared, values)
		if e != api.OK {
			t.Fatal(e)
		}
		for i, place := range places {
			if before[i] != after[place] {
				t.Errorf("%v: the node %d is %d, then %d", nodes, i, before[i], after[place])
			}
		}
		for i, n := range shared {
			if slices.ContainsFunc(shared[:i], func(m api.Node) bool { return equalNodes(m, n) }) {
				t.Errorf("%v: the node %d is there twice", shared, i)
			}
		}
		if again, same, e := graph.SharedOf(leaves, shared); e != api.OK || !sameNodes(again, shared) || !slices.Equal(same, upTo(len(shared))) {
			t.Errorf("%v shared again: %v, %v, %d", shared, again, same, e)
		}
	})
	if merged < 100 {
		t.Errorf("only %d nodes are equal to others", merged)
	}
}

// upTo is the numbers from 0 on.
func upTo(count int) []int {
	var l []int
	for i := range count {
		l = append(l, i)
	}
	return l
}

// P2.3: example 3, and nodes that differ in one thing.
func TestSharedExamples(t *testing.T) {
	more := append(exampleNodes(), con(4, 3), op(api.OpAdd, 4, 0, 6))
	if l, m, e := graph.SharedOf(exampleLeaves(), more); e != api.OK || !sameNodes(l, exampleNodes()) || !slices.Equal(m, []int{0, 1, 2, 3, 4, 5, 1, 2}) {
		t.Error(l, m, e)
	}
	different := list(
		con(4, 3), con(4, 2), con(5, 3), // value, width
		leaf(4, 0), leaf(4, 1), leaf(4, 3), // operation, value
		op(api.OpAdd, 4, 0, 1), op(api.OpAdd, 4, 1, 0), op(api.OpAdd, 4, 1, 1), op(api.OpSub, 4, 0, 1), // arguments, their order
		slice(1, 0, 0), slice(1, 1, 0), slice(2, 0, 0),
		op(api.OpExtend, 6, 0), op(api.OpExtend, 7, 0), op(api.OpExtendSigned, 6, 0),
		op(api.OpMux, 4, 10, 0, 1), op(api.OpMux, 4, 10, 0, 3), op(api.OpMux, 4, 11, 0, 1),
		op(api.OpNot, 4, 0), op(api.OpShiftLeft, 4, 0, 0),
	)
	if l, m, e := graph.SharedOf([]int{4, 4, 4, 4}, different); e != api.OK || !sameNodes(l, different) || !slices.Equal(m, upTo(len(different))) {
		t.Error(l, m, e)
	}
	// Equal only after sharing: the second half repeats the first one.
	twice := list(leaf(4, 0), op(api.OpNot, 4, 0), op(api.OpXor, 4, 1, 0), leaf(4, 0), op(api.OpNot, 4, 3), op(api.OpXor, 4, 4, 0))
	if l, m, e := graph.SharedOf([]int{4}, twice); e != api.OK || !sameNodes(l, twice[:3]) || !slices.Equal(m, []int{0, 1, 2, 0, 1, 2}) {
		t.Error(l, m, e)
	}
}

// foldedByHand puts constants in place of nodes again and again, until nothing changes.
func foldedByHand(nodes []api.Node) []api.Node {
	folded := copyOf(nodes)
	for changed := true; changed; {
		changed = false
		for i, n := range folded {
			if len(n.Args) == 0 || slices.ContainsFunc(n.Args, func(arg int) bool { return folded[arg].Op != api.OpConst }) {
				continue
			}
			var widths, values []int
			for _, arg := range n.Args {
				widths = append(widths, folded[arg].Width)
				values = append(values, folded[arg].Value)
			}
			folded[i] = con(n.Width, resultByHand(n, widths, values))
			changed = true
		}
	}
	return folded
}

// P2.3, P2.7, P2.8: folded.
func TestFolded(t *testing.T) {
	constants := 0
	eachGraph(func(d *dice, leaves []int, nodes []api.Node, values []int) {
		want := foldedByHand(nodes)
		folded, e := graph.FoldedOf(leaves, nodes)
		if e != api.OK || !sameNodes(folded, want) {
			t.Fatalf("%v: %v, %d, not %v", nodes, folded, e, want)
		}
		for i, n := range folded {
			if n.Op == api.OpConst && nodes[i].Op != api.OpConst {
				constants++
			}
		}
		before, _ := graph.ValuesOf(leaves, nodes, values)
		if after, e := graph.ValuesOf(leaves, folded, values); e != api.OK || !slices.Equal(before, after) {
			t.Errorf("%v: values %v, folded %v, %d", nodes, before, after, e)
		}
		if again, e := graph.FoldedOf(leaves, folded); e != api.OK || !sameNodes(again, folded) {
			t.Errorf("%v folded again: %v, %d", folded, again, e)
		}
	})
	if constants < 100 {
		t.Errorf("only %d nodes are folded", constants)
	}
}

// P2.3: example 4, and the edge case of a mux.
func TestFoldedExamples(t *testing.T) {
	constantCondition := exampleNodes()
	constantCondition[3] = con(1, 1)
	cases := []struct {
		name        string
		nodes, want []api.Node
	}{
		{"a constant condition", constantCondition, constantCondition},
		{"a product", list(con(4, 5), con(4, 6), op(api.OpMul, 4, 0, 1)), list(con(4, 5), con(4, 6), con(4, 14))},
		{"one after the other", list(con(4, 5), op(api.OpNot, 4, 0), op(api.OpJoin, 8, 1, 0), slice(3, 4, 2)), list(con(4, 5), con(4, 10), con(8, 165), con(3, 2))},
		{"a constant mux", list(con(1, 0), con(4, 6), con(4, 7), op(api.OpMux, 4, 0, 1, 2)), list(con(1, 0), con(4, 6), con(4, 7), con(4, 7))},
		{"one constant branch", list(con(1, 1), con(4, 6), leaf(4, 0), op(api.OpMux, 4, 0, 1, 2)), list(con(1, 1), con(4, 6), leaf(4, 0), op(api.OpMux, 4, 0, 1, 2))},
		{"a product with 0", list(con(4, 0), leaf(4, 0), op(api.OpMul, 4, 0, 1)), list(con(4, 0), leaf(4, 0), op(api.OpMul, 4, 0, 1))},
		{"signs", list(con(4, 9), con(4, 3), op(api.OpLessSigned, 1, 0, 1), op(api.OpExtendSigned, 8, 0)), list(con(4, 9), con(4, 3), con(1, 1), con(8, 249))},
	}
	for _, c := range cases {
		if l, e := graph.FoldedOf(exampleLeaves(), c.nodes); e != api.OK || !sameNodes(l, c.want) {
			t.Errorf("%s: %v, %d, not %v", c.name, l, e, c.want)
		}
	}
}

// P2.3, P2.7, P2.8: cones.
func TestCone(t *testing.T) {
	eachGraph(func(d *dice, leaves []int, nodes []api.Node, values []int) {
		var from []int
		for range d.roll(4) {
			from = append(from, d.roll(len(nodes)))
		}
		kept, e := graph.BelowOf(leaves, nodes, from)
		if e != api.OK {
			t.Fatal(e)
		}
		cone, places, e := graph.ConeOf(leaves, nodes, from)
		if e != api.OK || len(cone) != len(kept) || len(places) != len(from) {
			t.Fatalf("%v of %v: %v, %v, %d", from, nodes, cone, places, e)
		}
		for i, old := range kept {
			n := copyOf(nodes)[old]
			for j, arg := range n.Args {
				n.Args[j] = slices.Index(kept, arg)
			}
			if !equalNodes(n, cone[i]) {
				t.Errorf("%v of %v: the node %d is %v, not %v", from, nodes, i, cone[i], n)
			}
		}
		before, _ := graph.ValuesOf(leaves, nodes, values)
		after, e := graph.ValuesOf(leaves, cone, values)
		for i, f := range from {
			if e != api.OK || kept[places[i]] != f || after[places[i]] != before[f] {
				t.Errorf("%v of %v: the place of %d is %d, %d", from, nodes, f, places[i], e)
			}
		}
		if all, e := graph.BelowOf(leaves, cone, places); e != api.OK || len(all) != len(cone) {
			t.Errorf("%v of %v: only %v of the cone is below, %d", from, nodes, all, e)
		}
	})
}

// P2.3: example 5, and names in any order and more than once.
func TestConeExamples(t *testing.T) {
	g := exampleNodes()
	cases := []struct {
		from []int
		want []api.Node
		to   []int
	}{
		{nil, nil, nil},
		{[]int{5}, g, []int{5}},
		{[]int{2}, g[:3], []int{2}},
		{[]int{3, 1, 3}, list(g[1], g[3]), []int{1, 0, 1}},
	}
	for _, c := range cases {
		if l, m, e := graph.ConeOf(exampleLeaves(), g, c.from); e != api.OK || !sameNodes(l, c.want) || !slices.Equal(m, c.to) {
			t.Errorf("%v: %v, %v, %d", c.from, l, m, e)
		}
	}
	// The arguments move when nodes before them are left out.
	gap := list(con(4, 1), leaf(4, 0), con(4, 2), op(api.OpNot, 4, 1), op(api.OpSub, 4, 3, 1))
	want := list(leaf(4, 0), op(api.OpNot, 4, 0), op(api.OpSub, 4, 1, 0))
	if l, m, e := graph.ConeOf(exampleLeaves(), gap, []int{4, 1}); e != api.OK || !sameNodes(l, want) || !slices.Equal(m, []int{2, 0}) {
		t.Error(l, m, e)
	}
}
