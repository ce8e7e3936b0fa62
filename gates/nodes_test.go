package gates_test

import (
	"math"
	"slices"
	"testing"

	"ratchet/api"
	"ratchet/gates"
	"ratchet/graph"
)

// graphOf is the graph of a node, which must be as the chapter has it.
func graphOf(t *testing.T, leaves []int, nodes []api.Node, root int) api.GateGraph {
	t.Helper()
	g, e := gates.GatesOf(leaves, nodes, root)
	if e != api.OK {
		t.Fatalf("%v, %s, %d: %d", leaves, graph.FormatNodes(nodes), root, e)
	}
	checkMade(t, g, leaves, nodes[root].Width)
	if again, _ := gates.GatesOf(leaves, nodes, root); !same(again, g) {
		t.Fatalf("%v, %s, %d: first %v, then %v", leaves, graph.FormatNodes(nodes), root, g, again)
	}
	return g
}

// miterOf is the miter of two nodes, which must be as the chapter has it.
func miterOf(t *testing.T, leaves []int, nodes []api.Node, a, b int) api.GateGraph {
	t.Helper()
	g, e := gates.MiterOf(leaves, nodes, a, b)
	if e != api.OK {
		t.Fatalf("%v, %s, %d, %d: %d", leaves, graph.FormatNodes(nodes), a, b, e)
	}
	checkMade(t, g, leaves, 1)
	if again, _ := gates.MiterOf(leaves, nodes, a, b); !same(again, g) {
		t.Fatalf("%v, %s, %d, %d: first %v, then %v", leaves, graph.FormatNodes(nodes), a, b, g, again)
	}
	return g
}

// checkMade checks a graph that has been made of nodes.
func checkMade(t *testing.T, g api.GateGraph, leaves []int, outputs int) {
	t.Helper()
	bits := 0
	for _, width := range leaves {
		bits += width
	}
	if _, e := gates.CheckGates(g); g.Leaves != bits || len(g.Outputs) != outputs || !isPlain(g) || e != api.OK {
		t.Fatalf("%v for %d bits and %d outputs: %d", g, bits, outputs, e)
	}
	// Nothing that can be spared at once is in it.
	if clean, _ := gates.Cleaned(g); !same(clean, g) {
		t.Fatalf("%v is cleaned to %v", g, clean)
	}
}

// checkRoot checks the outputs of the graph of a node for some values of the leaves.
func checkRoot(t *testing.T, leaves []int, nodes []api.Node, root int, eachValues func(visit func(values []int))) {
	t.Helper()
	g := graphOf(t, leaves, nodes, root)
	eachValues(func(values []int) {
		want := nodeValues(t, leaves, nodes, values)[root]
		got := outputValues(g, bitsOf(leaves, values))
		for i, bit := range got {
			if bit != bitAt(want, i) {
				t.Fatalf("%s of %v at %v: %v, not %d", graph.FormatNodes(nodes), leaves, values, got, want)
			}
		}
	})
}

// argumentWidths are the widths of arguments that an operation may have beside a width of its own, each at most a number of bits.
func argumentWidths(op, width, most int) [][]int {
	var l [][]int
	for a := 1; a <= most; a++ {
		switch op {
		case api.OpNot, api.OpAnd, api.OpOr, api.OpXor, api.OpAdd, api.OpSub, api.OpMul:
			l = [][]int{{width, width}}
		case api.OpEqual, api.OpLess, api.OpLessSigned:
			if width == 1 {
				l = append(l, list(a, a))
			}
		case api.OpMux:
			l = [][]int{{1, width, width}}
		case api.OpJoin:
			if a < width {
				l = append(l, list(a, width-a))
			}
		case api.OpSlice:
			l = append(l, list(a))
		case api.OpExtend, api.OpExtendSigned:
			if a <= width {
				l = append(l, list(a))
			}
		case api.OpShiftLeft, api.OpShiftRight:
			l = append(l, list(width, a))
		}
	}
	if op == api.OpNot {
		return [][]int{{width}}
	}
	return l
}

// eachOperation visits each operation with leaves of each of its widths as arguments, whether they are different leaves or, as far as they can be, the same one.
func eachOperation(widest, most int, visit func(leaves []int, nodes []api.Node)) {
	for op := api.OpNot; op < api.OpCount; op++ {
		for width := 1; width <= widest; width++ {
			for _, leaves := range argumentWidths(op, width, most) {
				for value := 0; value == 0 || op == api.OpSlice && value+width <= leaves[0]; value++ {
					var nodes []api.Node
					n := api.Node{Op: op, Width: width, Value: value}
					for leaf, w := range leaves {
						nodes = append(nodes, api.Node{Op: api.OpLeaf, Width: w, Value: leaf})
						n.Args = append(n.Args, leaf)
					}
					last := n.Args[len(n.Args)-1]
					twice := n
					twice.Args = slices.Clone(n.Args)
					for i := range twice.Args {
						if leaves[i] == leaves[last] {
							twice.Args[i] = last
						}
					}
					if _, e := graph.CheckNodes(leaves, append(slices.Clone(nodes), n)); e != api.OK {
						continue
					}
					visit(leaves, append(slices.Clone(nodes), n))
					visit(leaves, append(slices.Clone(nodes), twice))
				}
			}
		}
	}
}

// P4.2, P4.8: each operation has its value, for all small widths and all values.
func TestGatesOfOperations(t *testing.T) {
	kinds := map[int]int{}
	eachOperation(5, 5, func(leaves []int, nodes []api.Node) {
		root := len(nodes) - 1
		kinds[nodes[root].Op]++
		checkRoot(t, leaves, nodes, root, func(visit func(values []int)) { eachValues(leaves, visit) })
	})
	for op := api.OpNot; op < api.OpCount; op++ {
		if kinds[op] < 5 {
			t.Error(op, kinds[op])
		}
	}
}

// P4.2, P4.8: each operation has its value, for all widths and some values, among them those at both ends.
func TestGatesOfWideOperations(t *testing.T) {
	d := &dice{state: 8}
	eachOperation(api.MaxWidth, api.MaxWidth, func(leaves []int, nodes []api.Node) {
		root := len(nodes) - 1
		checkRoot(t, leaves, nodes, root, func(visit func(values []int)) {
			for range 24 {
				var values []int
				for _, width := range leaves {
					value := d.roll(power(width))
					switch d.roll(4) {
					case 0:
						value = power(width) - 1 - d.roll(2)
					case 1:
						value = min(d.roll(20), power(width)-1)
					}
					values = append(values, value)
				}
				visit(values)
			}
		})
	})
}

// P4.2, P4.8: nodes of nodes, with constants among them.
func TestGatesOfNodes(t *testing.T) {
	d := &dice{state: 5}
	kinds := map[int]int{}
	for range 400 {
		leaves := many(d.roll(4), 1)
		for i := range leaves {
			leaves[i] = 1 + d.roll(3)
		}
		nodes := d.nodes(leaves, 1+d.roll(20), 5)
		for root, n := range nodes {
			kinds[n.Op]++
			checkRoot(t, leaves, nodes, root, func(visit func(values []int)) { eachValues(leaves, visit) })
		}
	}
	for op := range api.OpCount {
		if kinds[op] < 20 {
			t.Error(op, kinds[op])
		}
	}
}

// P4.2: the leaf bits are those of all leaves, whether there are nodes of them or not.
func TestLeafBits(t *testing.T) {
	leaves := list(3, 16, 1, 5)
	nodes := nodesIn(t, leaves, "leaf 5 3;leaf 1 2;leaf 16 1;leaf 3 0;leaf 5 3")
	for root, want := range []string{"25;;42 44 46 48 50", "25;;40", "25;;8 10 12 14 16 18 20 22 24 26 28 30 32 34 36 38", "25;;2 4 6", "25;;42 44 46 48 50"} {
		if g := graphOf(t, leaves, nodes, root); !same(g, read(want)) {
			t.Errorf("%d: %v, not %s", root, g, want)
		}
	}
	// The last bit of all.
	nodes = nodesIn(t, many(40, 16), "leaf 16 39;slice 1 0 15")
	if g := graphOf(t, many(40, 16), nodes, 1); !same(g, read("640;;1280")) {
		t.Error(g)
	}
}

// P4.2: nodes that are constant, or a part of a leaf, have graphs without gates.
func TestGatesOfConstants(t *testing.T) {
	leaves := list(4, 1)
	cases := []struct{ nodes, want string }{
		{"const 4 5", "5;;1 0 1 0"},
		{"const 16 65535", "5;;1 1 1 1 1 1 1 1 1 1 1 1 1 1 1 1"},
		{"const 4 5;const 4 14;add 4 0 1", "5;;1 1 0 0"},
		{"const 4 5;const 4 14;sub 4 0 1", "5;;1 1 1 0"},
		{"const 4 5;const 4 14;mul 4 0 1", "5;;0 1 1 0"},
		{"const 4 5;const 4 14;lt 1 0 1", "5;;1"},
		{"const 4 5;const 4 14;slt 1 0 1", "5;;0"},
		{"const 4 5;const 16 65535;shl 4 0 1", "5;;0 0 0 0"},
		{"const 4 5;const 2 1;shr 4 0 1", "5;;0 1 0 0"},
		{"const 4 5;const 1 1;const 4 3;mux 4 1 0 2", "5;;1 0 1 0"},
		{"leaf 4 0;const 4 0;mul 4 0 1", "5;;0 0 0 0"},
		{"leaf 4 0;const 4 2;mul 4 0 1", "5;;0 2 4 6"},
		{"leaf 4 0;const 4 0;add 4 0 1", "5;;2 4 6 8"},
		{"leaf 4 0;const 4 0;add 4 1 0", "5;;2 4 6 8"},
		{"leaf 4 0;xor 4 0 0", "5;;0 0 0 0"},
		{"leaf 4 0;sub 4 0 0", "5;;0 0 0 0"},
		{"leaf 4 0;add 4 0 0", "5;;0 2 4 6"},
		{"leaf 4 0;eq 1 0 0", "5;;1"},
		{"leaf 4 0;lt 1 0 0", "5;;0"},
		{"leaf 4 0;slt 1 0 0", "5;;0"},
		{"leaf 4 0;leaf 1 1;mux 4 1 0 0", "5;;2 4 6 8"},
		{"leaf 4 0;not 4 0", "5;;3 5 7 9"},
		{"leaf 4 0;const 5 16;shl 4 0 1", "5;;0 0 0 0"},
		{"leaf 4 0;sext 6 0", "5;;2 4 6 8 8 8"},
		{"leaf 4 0;zext 6 0", "5;;2 4 6 8 0 0"},
		{"leaf 4 0;leaf 1 1;join 5 0 1", "5;;10 2 4 6 8"},
		{"leaf 4 0;slice 2 0 1", "5;;4 6"},
	}
	for _, c := range cases {
		nodes := nodesIn(t, leaves, c.nodes)
		if g := graphOf(t, leaves, nodes, len(nodes)-1); !same(g, read(c.want)) {
			t.Errorf("%s: %v, not %s", c.nodes, g, c.want)
		}
	}
}

// P4.2: the most and widest nodes do not have too many gates.
func TestGatesOfLargest(t *testing.T) {
	leaves := many(40, 16)
	for _, op := range []string{"mul", "add", "shl", "shr"} {
		s := "leaf 16 0;leaf 16 1"
		nodes := nodesIn(t, leaves, s)
		for len(nodes) < api.MaxGateNodes {
			n := nodesIn(t, leaves, s+";"+op+" 16 0 1")[2]
			n.Args = list(len(nodes)-1, len(nodes)-2)
			nodes = append(nodes, n)
		}
		g := graphOf(t, leaves, nodes, len(nodes)-1)
		m := miterOf(t, leaves, nodes, len(nodes)-1, len(nodes)-2)
		if len(g.Gates) < 1000 || len(m.Gates) < 1000 {
			t.Error(op, len(g.Gates), len(m.Gates))
		}
	}
}

// P4.2, P4.8: the output of a miter is 1 exactly where both values differ.
func TestMiterOf(t *testing.T) {
	d := &dice{state: 12}
	same, different, mixed := 0, 0, 0
	for range 1200 {
		leaves := many(1+d.roll(3), 1)
		for i := range leaves {
			leaves[i] = 1 + d.roll(3)
		}
		nodes := d.nodes(leaves, 1+d.roll(12), 4)
		a, b := d.roll(len(nodes)), d.roll(len(nodes))
		if nodes[a].Width != nodes[b].Width {
			continue
		}
		g := miterOf(t, leaves, nodes, a, b)
		var counts [2]int
		eachValues(leaves, func(values []int) {
			l := nodeValues(t, leaves, nodes, values)
			want := 0
			if l[a] != l[b] {
				want = 1
			}
			counts[want]++
			if got := outputValues(g, bitsOf(leaves, values)); got[0] != want {
				t.Fatalf("%s of %v, %d, %d at %v: %v, not %d", graph.FormatNodes(nodes), leaves, a, b, values, got, want)
			}
		})
		switch {
		case counts[1] == 0:
			same++
		case counts[0] == 0:
			different++
		default:
			mixed++
		}
	}
	if same < 50 || different < 20 || mixed < 100 {
		t.Error(same, different, mixed)
	}
}

// P4.2: a miter may be of nodes of many bits.
func TestMiterOfManyBits(t *testing.T) {
	leaves := many(40, 16)
	nodes := nodesIn(t, leaves, "leaf 16 0;leaf 16 39;add 16 0 1;leaf 16 20;add 16 2 3;add 16 3 1;add 16 0 5")
	g := miterOf(t, leaves, nodes, 4, 6)
	h := miterOf(t, leaves, nodes, 4, 5)
	d := &dice{state: 2}
	for range 200 {
		bits := make([]int, 640)
		for i := range bits {
			bits[i] = d.roll(2)
		}
		if l := outputValues(g, bits); l[0] != 0 {
			t.Fatal(l)
		}
		differ := slices.Contains(bits[:16], 1)
		if l := outputValues(h, bits); (l[0] == 1) != differ {
			t.Fatal(l)
		}
	}
}

// wrongNodes are leaves and nodes with their errors.
func wrongNodes(t *testing.T) []struct {
	leaves []int
	nodes  []api.Node
	want   api.Errno
} {
	constant := api.Node{Op: api.OpConst, Width: 1}
	return []struct {
		leaves []int
		nodes  []api.Node
		want   api.Errno
	}{
		{many(41, 17), sums(), api.ErrLarge},
		{list(2, 17), sums(), api.ErrRange},
		{list(2, 0), sums(), api.ErrRange},
		{list(2, 2), many(401, constant), api.ErrLarge},
		{list(2, 2), many(61, api.Node{Op: -1}), api.ErrKind},
		{list(2, 2), append(many(60, constant), api.Node{Op: api.OpNot, Width: 1, Args: list(60)}), api.ErrOrder},
		{list(2, 2), append(sums(), api.Node{Op: api.OpCount}), api.ErrKind},
		{list(2, 2), append(sums(), api.Node{Op: api.OpConst, Width: 17}), api.ErrRange},
		{list(2, 2), append(sums(), api.Node{Op: api.OpAdd, Width: 2, Args: list(0)}), api.ErrShape},
		{list(2), sums(), api.ErrMissing},
		{list(2, 3), sums(), api.ErrWidth},
		{list(2, 2), append(sums(), api.Node{Op: api.OpAdd, Width: 2, Args: list(0, 1), Value: 1}), api.ErrForm},
		{list(2, 2), many(61, constant), api.ErrLarge},
	}
}

// P4.2, P4.5: the errors of the nodes come first, then those of the nodes that are named.
func TestErrorOfNodes(t *testing.T) {
	calls := map[string]func(leaves []int, nodes []api.Node, a, b int) result{
		"GatesOf":      func(l []int, n []api.Node, a, b int) result { return resultOf(gates.GatesOf(l, n, a)) },
		"MiterOf":      func(l []int, n []api.Node, a, b int) result { return resultOf(gates.MiterOf(l, n, a, b)) },
		"DifferenceOf": func(l []int, n []api.Node, a, b int) result { return resultOf(gates.DifferenceOf(l, n, a, b)) },
		"EqualBy":      func(l []int, n []api.Node, a, b int) result { return resultOf(gates.EqualBy(l, n, a, b)) },
		"CheckEqual": func(l []int, n []api.Node, a, b int) result {
			return resultOf(gates.CheckEqual(l, n, a, b, []api.CnfStep{{First: -1}}))
		},
	}
	wide := append(sums(), api.Node{Op: api.OpEqual, Width: 1, Args: list(0, 1)})
	most := append(sums(), many(55, api.Node{Op: api.OpConst, Width: 2})...)
	for name, call := range calls {
		check := func(what any, r result, want api.Errno) {
			if !isZero(r.of) || r.e != want {
				t.Errorf("%s, %v: %v, %d, not %d", name, what, r.of, r.e, want)
			}
		}
		for i, c := range wrongNodes(t) {
			check(i, call(c.leaves, c.nodes, -1, 999), c.want)
		}
		for _, missing := range []int{math.MinInt, -1, 6, math.MaxInt} {
			check("a", call(list(2, 2), wide, missing, 999), api.ErrMissing)
			if name != "GatesOf" {
				check("b", call(list(2, 2), wide, 5, missing), api.ErrMissing)
			}
		}
		if name != "GatesOf" {
			check("the widths", call(list(2, 2), wide, 2, 5), api.ErrWidth)
			check("the widths exchanged", call(list(2, 2), wide, 5, 2), api.ErrWidth)
			// The widths come before too many bits.
			nodes := nodesIn(t, list(13), "leaf 13 0;slice 1 0 0")
			check("the widths first", call(list(13), nodes, 0, 1), api.ErrWidth)
		}
		if r := call(list(2, 2), most, 2, 4); len(most) != 60 || r.e == api.ErrLarge {
			t.Errorf("%s of %d nodes: %d", name, len(most), r.e)
		}
	}
}
