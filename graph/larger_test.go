package graph_test

import (
	"math"
	"slices"
	"testing"

	"ratchet/api"
	"ratchet/graph"
)

// P2.4, P2.7: a leaf that is replaced by its value changes no value.
func TestSubstituted(t *testing.T) {
	eachGraph(func(d *dice, leaves []int, nodes []api.Node, values []int) {
		index := d.roll(len(leaves))
		l, e := graph.Substituted(leaves, nodes, index, values[index])
		if e != api.OK || len(l) != len(nodes) {
			t.Fatalf("leaf %d of %v: %v, %d", index, nodes, l, e)
		}
		for i, n := range nodes {
			want := n
			if n.Op == api.OpLeaf && n.Value == index {
				want = con(leaves[index], values[index])
			}
			if !equalNodes(l[i], want) {
				t.Errorf("leaf %d of %v: the node %d is %v, not %v", index, nodes, i, l[i], want)
			}
		}
		before, _ := graph.ValuesOf(leaves, nodes, values)
		if after, e := graph.ValuesOf(leaves, l, values); e != api.OK || !slices.Equal(before, after) {
			t.Errorf("leaf %d of %v: %v, then %v, %d", index, nodes, before, after, e)
		}
	})
}

// P2.4
func TestSubstitutedExamples(t *testing.T) {
	want := exampleNodes()
	want[3] = con(1, 1)
	if l, e := graph.Substituted(exampleLeaves(), exampleNodes(), 1, 1); e != api.OK || !sameNodes(l, want) {
		t.Error(l, e)
	}
	// Each node of the leaf is replaced; a constant and a slice with the same number are not.
	nodes := list(leaf(4, 0), con(4, 0), leaf(4, 0), slice(2, 0, 0), leaf(1, 1))
	want = list(con(4, 15), con(4, 0), con(4, 15), slice(2, 0, 0), leaf(1, 1))
	if l, e := graph.Substituted(exampleLeaves(), nodes, 0, 15); e != api.OK || !sameNodes(l, want) {
		t.Error(l, e)
	}
	// A leaf without nodes.
	if l, e := graph.Substituted([]int{4, 1, 16}, exampleNodes(), 2, 65535); e != api.OK || !sameNodes(l, exampleNodes()) {
		t.Error(l, e)
	}
}

// P2.4
func TestSubstitutedErrors(t *testing.T) {
	cases := []struct {
		leaf, value int
		want        api.Errno
	}{
		{-1, 0, api.ErrMissing},
		{2, 0, api.ErrMissing},
		{math.MinInt, -1, api.ErrMissing},
		{math.MaxInt, 99, api.ErrMissing},
		{0, 16, api.ErrRange},
		{0, -1, api.ErrRange},
		{1, 2, api.ErrRange},
		{1, math.MaxInt, api.ErrRange},
		{0, math.MinInt, api.ErrRange},
		{0, 15, api.OK},
		{1, 0, api.OK},
	}
	for _, c := range cases {
		l, e := graph.Substituted(exampleLeaves(), exampleNodes(), c.leaf, c.value)
		if e != c.want || e != api.OK && len(l) != 0 {
			t.Errorf("leaf %d, value %d: %v, %d, not %d", c.leaf, c.value, l, e, c.want)
		}
	}
	if l, e := graph.Substituted(nil, nil, 0, 0); len(l) != 0 || e != api.ErrMissing {
		t.Error(l, e)
	}
}

// P2.4, P2.7: both parts of an appended graph have their values.
func TestAppended(t *testing.T) {
	eachGraph(func(d *dice, leaves []int, a []api.Node, values []int) {
		b := d.graph(leaves, 1+d.roll(20))
		l, places, e := graph.Appended(leaves, a, b)
		if e != api.OK || len(l) != len(a)+len(b) || len(places) != len(b) || !sameNodes(l[:len(a)], a) {
			t.Fatalf("%v and %v: %v, %v, %d", a, b, l, places, e)
		}
		ofA, _ := graph.ValuesOf(leaves, a, values)
		ofB, _ := graph.ValuesOf(leaves, b, values)
		both, e := graph.ValuesOf(leaves, l, values)
		if e != api.OK || !slices.Equal(both, append(ofA, ofB...)) {
			t.Errorf("%v and %v: %v, %d", a, b, both, e)
		}
		for i, n := range copyOf(b) {
			for j := range n.Args {
				n.Args[j] += len(a)
			}
			if places[i] != len(a)+i || !equalNodes(l[places[i]], n) {
				t.Errorf("%v and %v: the node %d is %v at %d", a, b, i, l[places[i]], places[i])
			}
		}
	})
}

// P2.4
func TestAppendedExamples(t *testing.T) {
	g := exampleNodes()
	want := append(copyOf(g[:2]), leaf(4, 0), con(4, 3), op(api.OpAdd, 4, 2, 3))
	if l, m, e := graph.Appended(exampleLeaves(), g[:2], g[:3]); e != api.OK || !sameNodes(l, want) || !slices.Equal(m, []int{2, 3, 4}) {
		t.Error(l, m, e)
	}
	if l, m, e := graph.Appended(exampleLeaves(), nil, g); e != api.OK || !sameNodes(l, g) || !slices.Equal(m, upTo(6)) {
		t.Error(l, m, e)
	}
	if l, m, e := graph.Appended(exampleLeaves(), g, nil); e != api.OK || !sameNodes(l, g) || len(m) != 0 {
		t.Error(l, m, e)
	}
	// The number 0 of a leaf is no argument: it does not move.
	if l, m, e := graph.Appended([]int{4}, list(con(4, 1)), list(leaf(4, 0), slice(1, 2, 0))); e != api.OK || !sameNodes(l, list(con(4, 1), leaf(4, 0), slice(1, 2, 1))) || !slices.Equal(m, []int{1, 2}) {
		t.Error(l, m, e)
	}
}

// P2.4
func TestAppendedErrors(t *testing.T) {
	if l, m, e := graph.Appended(nil, manyNodes(399), manyNodes(1)); e != api.OK || len(l) != 400 || !slices.Equal(m, []int{399}) {
		t.Error(len(l), m, e)
	}
	for a, b := range map[int]int{400: 1, 1: 400, 200: 201} {
		if l, m, e := graph.Appended(nil, manyNodes(a), manyNodes(b)); len(l) != 0 || len(m) != 0 || e != api.ErrLarge {
			t.Error(a, b, len(l), m, e)
		}
	}
	kind, width := list(op(api.OpCount, 1)), list(con(17, 0))
	if _, _, e := graph.Appended(nil, kind, width); e != api.ErrKind {
		t.Error(e)
	}
	if _, _, e := graph.Appended(nil, width, kind); e != api.ErrRange {
		t.Error(e)
	}
	if _, _, e := graph.Appended(nil, manyNodes(400), kind); e != api.ErrKind {
		t.Error(e)
	}
	if _, _, e := graph.Appended(nil, kind, manyNodes(401)); e != api.ErrKind {
		t.Error(e)
	}
	// The nodes of b may not use those of a.
	if _, _, e := graph.Appended(nil, list(con(1, 0)), list(op(api.OpNot, 1, 0))); e != api.ErrOrder {
		t.Error(e)
	}
}
