package gates_test

import (
	"math"
	"slices"
	"testing"

	"ratchet/api"
	"ratchet/cnf"
	"ratchet/gates"
	"ratchet/graph"
)

// pair is two nodes.
type pair struct {
	name   string
	leaves []int
	nodes  string
	a, b   int
}

// equals are pairs of nodes that are equal, of at most 12 bits, but not for the shape of their gates alone.
var equals = []pair{
	{"sums in two orders", list(3, 3, 3), "leaf 3 0;leaf 3 1;leaf 3 2;add 3 0 1;add 3 3 2;add 3 1 2;add 3 0 5", 4, 6},
	{"sums of four in two orders", list(3, 3, 3, 3), "leaf 3 0;leaf 3 1;leaf 3 2;leaf 3 3;add 3 0 1;add 3 2 3;add 3 4 5;add 3 0 3;add 3 7 1;add 3 8 2", 6, 9},
	{"a sum by its carries", list(6, 6), "leaf 6 0;leaf 6 1;add 6 0 1;xor 6 0 1;and 6 0 1;const 1 1;shl 6 4 5;add 6 3 6", 2, 7},
	{"a sum by or and and", list(6, 6), "leaf 6 0;leaf 6 1;add 6 0 1;or 6 0 1;and 6 0 1;add 6 3 4", 2, 5},
	{"a difference by a complement", list(6, 6), "leaf 6 0;leaf 6 1;sub 6 0 1;not 6 0;add 6 3 1;not 6 4", 2, 5},
	{"a difference by a negative", list(6, 6), "leaf 6 0;leaf 6 1;sub 6 0 1;not 6 1;const 6 1;add 6 3 4;add 6 0 5", 2, 6},
	{"less by the opposite", list(6, 6), "leaf 6 0;leaf 6 1;lt 1 0 1;lt 1 1 0;eq 1 0 1;or 1 3 4;not 1 5", 2, 6},
	{"less with signs by a difference", list(6, 6), "leaf 6 0;leaf 6 1;slt 1 0 1;sext 7 0;sext 7 1;sub 7 3 4;slice 1 5 6", 2, 6},
	{"a product of a sum", list(3, 3, 3), "leaf 3 0;leaf 3 1;leaf 3 2;add 3 1 2;mul 3 0 3;mul 3 0 1;mul 3 0 2;add 3 5 6", 4, 7},
	{"products in two orders", list(4, 4, 4), "leaf 4 0;leaf 4 1;leaf 4 2;mul 4 0 1;mul 4 3 2;mul 4 1 2;mul 4 0 5", 4, 6},
	{"two squares", list(5, 5), "leaf 5 0;leaf 5 1;add 5 0 1;sub 5 0 1;mul 5 2 3;mul 5 0 0;mul 5 1 1;sub 5 5 6", 4, 7},
	{"a shift as a product", list(8, 3), "leaf 8 0;leaf 3 1;shl 8 0 1;const 8 1;shl 8 3 1;mul 8 0 4", 2, 5},
	{"two shifts as a mask", list(8, 4), "leaf 8 0;leaf 4 1;shr 8 0 1;shl 8 2 1;const 8 255;shl 8 4 1;and 8 0 5", 3, 6},
	{"three times", list(12), "leaf 12 0;const 12 3;mul 12 0 1;add 12 0 0;add 12 3 0", 2, 4},
	{"seven times", list(12), "leaf 12 0;const 12 7;mul 12 0 1;const 4 3;shl 12 0 3;sub 12 4 0", 2, 5},
	{"the greater and the less one", list(6, 6), "leaf 6 0;leaf 6 1;lt 1 0 1;mux 6 2 1 0;mux 6 2 0 1;add 6 3 4;add 6 0 1", 5, 6},
	{"the greater one in two ways", list(6, 6), "leaf 6 0;leaf 6 1;lt 1 0 1;mux 6 2 1 0;lt 1 1 0;mux 6 4 0 1", 3, 5},
	{"a mux as a mask", list(5, 5, 1), "leaf 5 0;leaf 5 1;leaf 1 2;mux 5 2 0 1;sext 5 2;and 5 0 4;not 5 4;and 5 1 6;or 5 5 7", 3, 8},
	{"a constant", list(4), "leaf 4 0;const 4 1;add 4 0 1;mul 4 0 2;slice 1 3 0;lt 1 0 2;const 4 15;eq 1 0 6;or 1 5 7;xor 1 4 8;const 1 1", 9, 10},
	{"a node and itself", list(4, 4), "leaf 4 0;leaf 4 1;mul 4 0 1", 2, 2},
	{"a constant and itself", list(), "const 4 9", 0, 0},
	{"two nodes alike", list(2, 2), "leaf 2 0;leaf 2 1;add 2 0 1;add 2 1 0", 2, 3},
	{"no and", list(2, 2), "leaf 2 0;leaf 2 1;and 2 0 1;not 2 2;not 2 0;not 2 1;or 2 4 5", 3, 6},
}

// checkEqual checks that two nodes have a proof that is accepted, and no difference; it is the proof.
func checkEqual(t *testing.T, leaves []int, nodes []api.Node, a, b int) []api.CnfStep {
	t.Helper()
	what := graph.FormatNodes(nodes)
	proof, e := gates.EqualBy(leaves, nodes, a, b)
	if e != api.OK {
		t.Errorf("%s of %v, %d, %d: no proof: %d", what, leaves, a, b, e)
		return nil
	}
	if i, e := gates.CheckEqual(leaves, nodes, a, b, proof); i != 0 || e != api.OK {
		t.Errorf("%s of %v, %d, %d: %d, %d in the proof %v", what, leaves, a, b, i, e, proof)
	}
	if l, e := gates.DifferenceOf(leaves, nodes, a, b); len(l) > 0 || e != api.ErrNone {
		t.Errorf("%s of %v, %d, %d: a proof, and %v, %d", what, leaves, a, b, l, e)
	}
	return proof
}

// P4.5, P4.11: equal nodes have a proof, whatever leaves there are beside those on which they depend.
func TestEqualBy(t *testing.T) {
	long := 0
	for _, p := range equals {
		nodes := nodesIn(t, p.leaves, p.nodes)
		if len(checkEqual(t, p.leaves, nodes, p.a, p.b)) > 0 {
			long++
		}
		checkEqual(t, p.leaves, nodes, p.b, p.a)
		// Between leaves of all bits but a few.
		room := 1000 - len(miterOf(t, p.leaves, nodes, p.a, p.b).Gates)
		var leaves []int
		for range min(room/32, 18) {
			leaves = append(leaves, 16)
		}
		before := len(leaves)
		leaves = append(leaves, p.leaves...)
		for range before {
			leaves = append(leaves, 15)
		}
		for i := range nodes {
			if nodes[i].Op == api.OpLeaf {
				nodes[i].Value += before
			}
		}
		checkEqual(t, leaves, nodes, p.a, p.b)
	}
	if long < 15 {
		t.Error(long)
	}
}

// P4.5: proofs that are changed are not accepted, and the first wrong step is named.
func TestCheckEqual(t *testing.T) {
	for _, p := range equals {
		nodes := nodesIn(t, p.leaves, p.nodes)
		proof, e := gates.EqualBy(p.leaves, nodes, p.a, p.b)
		if e != api.OK || len(proof) == 0 {
			continue
		}
		m := miterOf(t, p.leaves, nodes, p.a, p.b)
		f, _ := gates.ClausesOf(m, m.Outputs[0])
		last := len(proof) - 1
		step := func(i int, change func(step *api.CnfStep)) []api.CnfStep {
			l := slices.Clone(proof)
			change(&l[i])
			return l
		}
		cases := []struct {
			proof []api.CnfStep
			index int
			want  api.Errno
		}{
			{proof, 0, api.OK},
			{nil, 0, api.ErrOpen},
			{proof[:last], 0, api.ErrOpen},
			{step(last, func(s *api.CnfStep) { s.First = len(f.Clauses) + last }), last, api.ErrMissing},
			{step(0, func(s *api.CnfStep) { s.Second = -1 }), 0, api.ErrMissing},
			{step(last, func(s *api.CnfStep) { s.Var = f.Vars + 1 }), last, api.ErrRange},
			{step(last/2, func(s *api.CnfStep) { s.Var = 0 }), last / 2, api.ErrRange},
			{step(last, func(s *api.CnfStep) { s.First, s.Second = s.Second, s.First }), last, api.ErrProof},
			{append(slices.Clone(proof), api.CnfStep{Var: 1}), len(proof), api.ErrProof},
			{append(slices.Clone(proof), api.CnfStep{First: 2, Second: 0, Var: m.Leaves + 1}), len(proof), api.ErrClash},
			{many(200001, proof[0]), 0, api.ErrLarge},
		}
		for i, c := range cases {
			j, e := gates.CheckEqual(p.leaves, nodes, p.a, p.b, c.proof)
			if j != c.index || e != c.want {
				t.Errorf("%s, case %d: %d, %d, not %d, %d", p.name, i, j, e, c.index, c.want)
			}
			if k, w := cnf.CheckProof(f, c.proof); j != k || e != w {
				t.Errorf("%s, case %d: %d, %d, not %d, %d", p.name, i, j, e, k, w)
			}
		}
	}
}

// P4.5, P4.11: no proof of nodes that differ is accepted.
func TestCheckEqualDifferent(t *testing.T) {
	leaves := list(2, 2)
	proof, _ := gates.EqualBy(list(2, 2), nodesIn(t, leaves, "leaf 2 0;leaf 2 1;or 2 0 1;and 2 0 1;add 2 2 3;add 2 0 1"), 4, 5)
	if len(proof) == 0 {
		t.Fatal(proof)
	}
	for a := range sums() {
		for b := range a {
			want := api.ErrNone
			if a == 3 && b == 2 {
				want = api.OK
			}
			if p, e := gates.EqualBy(leaves, sums(), a, b); e != want || e != api.OK && len(p) > 0 {
				t.Error(a, b, p, e)
			}
			for _, p := range [][]api.CnfStep{nil, proof} {
				if i, e := gates.CheckEqual(leaves, sums(), a, b, p); want == api.ErrNone && e == api.OK {
					t.Error(a, b, i, e)
				}
			}
		}
	}
	if i, e := gates.CheckEqual(nil, []api.Node{{Op: api.OpConst, Width: 1}, {Op: api.OpConst, Width: 1, Value: 1}}, 0, 1, nil); i != 0 || e != api.ErrOpen {
		t.Error(i, e)
	}
}

// withOther adds nodes to others that make a node which is equal to one of them in another way; it is the last one of them.
func (d *dice) withOther(leaves []int, nodes []api.Node, root int) ([]api.Node, int) {
	cone, _, _ := graph.ConeOf(leaves, nodes, []int{root})
	all := slices.Clone(nodes)
	add := func(op, width, value int, args ...int) int {
		all = append(all, api.Node{Op: op, Width: width, Value: value, Args: args})
		return len(all) - 1
	}
	others := make([]int, len(cone)) // by the nodes of the cone
	for i, n := range cone {
		var args []int
		for _, arg := range n.Args {
			args = append(args, others[arg])
		}
		w := n.Width
		not := func(arg int) int { return add(api.OpNot, all[arg].Width, 0, arg) }
		if d.roll(3) == 0 {
			others[i] = add(n.Op, w, n.Value, args...)
			continue
		}
		switch n.Op {
		case api.OpAnd:
			others[i] = not(add(api.OpOr, w, 0, not(args[0]), not(args[1])))
		case api.OpOr:
			others[i] = not(add(api.OpAnd, w, 0, not(args[0]), not(args[1])))
		case api.OpXor:
			others[i] = add(api.OpSub, w, 0, add(api.OpOr, w, 0, args...), add(api.OpAnd, w, 0, args...))
		case api.OpAdd:
			others[i] = not(add(api.OpSub, w, 0, not(args[0]), args[1]))
		case api.OpSub:
			others[i] = not(add(api.OpAdd, w, 0, not(args[0]), args[1]))
		case api.OpMul:
			more := add(api.OpAdd, w, 0, args[0], add(api.OpConst, w, 1))
			others[i] = add(api.OpSub, w, 0, add(api.OpMul, w, 0, more, args[1]), args[1])
		case api.OpEqual:
			others[i] = not(add(api.OpOr, 1, 0, add(api.OpLess, 1, 0, args[0], args[1]), add(api.OpLess, 1, 0, args[1], args[0])))
		case api.OpLess, api.OpLessSigned:
			others[i] = not(add(api.OpOr, 1, 0, add(api.OpEqual, 1, 0, args...), add(n.Op, 1, 0, args[1], args[0])))
		case api.OpMux:
			mask := add(api.OpExtendSigned, w, 0, args[0])
			others[i] = add(api.OpXor, w, 0, args[2], add(api.OpAnd, w, 0, mask, add(api.OpXor, w, 0, args[1], args[2])))
		default:
			others[i] = add(n.Op, w, n.Value, args...)
		}
	}
	return all, len(all) - 1
}

// P4.5, P4.11: nodes at random have a proof, or the first values at which they differ, never both.
func TestEqualOrDifferent(t *testing.T) {
	d := &dice{state: 11}
	equal, different, proofs, short := 0, 0, 0, 0
	for i := range 6000 {
		leaves := many(1+d.roll(4), 1)
		for i := range leaves {
			leaves[i] = 1 + d.roll(3)
		}
		nodes := d.nodes(leaves, 3+d.roll(10), 3)
		a := len(nodes) - 1
		b := d.roll(a)
		if i%2 == 0 {
			nodes, b = d.withOther(leaves, nodes, a)
		}
		if nodes[a].Width != nodes[b].Width || len(nodes) > api.MaxGateNodes {
			continue
		}
		if len(miterOf(t, leaves, nodes, a, b).Gates) <= api.MaxGateShort {
			short++
		}
		var first []int
		eachValues(leaves, func(values []int) {
			l := nodeValues(t, leaves, nodes, values)
			if first == nil && l[a] != l[b] {
				first = values
			}
		})
		if first == nil {
			equal++
			if len(checkEqual(t, leaves, nodes, a, b)) > 0 {
				proofs++
			}
			continue
		}
		different++
		if l, e := gates.DifferenceOf(leaves, nodes, a, b); !slices.Equal(l, first) || e != api.OK {
			t.Errorf("%s of %v, %d, %d: %v, %d, not %v", graph.FormatNodes(nodes), leaves, a, b, l, e, first)
		}
		if p, e := gates.EqualBy(leaves, nodes, a, b); len(p) > 0 || e != api.ErrNone {
			t.Errorf("%s of %v, %d, %d: %v, %d", graph.FormatNodes(nodes), leaves, a, b, p, e)
		}
	}
	if equal < 2000 || different < 800 || proofs < 200 || short < 3000 {
		t.Error(equal, different, proofs, short)
	}
}

// P4.5: example 5, and differences of many leaves.
func TestDifferenceOf(t *testing.T) {
	cases := []struct {
		leaves []int
		nodes  string
		a, b   int
		want   []int
	}{
		{list(2, 2), "leaf 2 0;leaf 2 1;add 2 0 1;add 2 1 0;or 2 0 1", 2, 4, list(1, 1)},
		{list(), "const 1 0;const 1 1", 0, 1, list()},
		{list(3, 2), "const 1 0;const 1 1", 0, 1, list(0, 0)},
		{list(16, 4, 16, 8, 16), "leaf 4 1;leaf 8 3;zext 8 0;const 8 9;sub 8 1 3;eq 1 2 4;const 1 0", 5, 6, list(0, 0, 0, 9, 0)},
		{list(16, 4, 16, 8, 16), "leaf 4 1;leaf 8 3;zext 8 0;const 8 255;eq 1 1 3;lt 1 3 2;slice 1 0 3;and 1 4 6;const 1 0", 7, 8, list(0, 8, 0, 255, 0)},
		{list(12), "leaf 12 0;const 12 4095;eq 1 0 1;const 1 0", 2, 3, list(4095)},
	}
	for _, c := range cases {
		nodes := nodesIn(t, c.leaves, c.nodes)
		for _, two := range [][2]int{{c.a, c.b}, {c.b, c.a}} {
			if l, e := gates.DifferenceOf(c.leaves, nodes, two[0], two[1]); !slices.Equal(l, c.want) || e != api.OK {
				t.Errorf("%s: %v, %d, not %v", c.nodes, l, e, c.want)
			}
			if p, e := gates.EqualBy(c.leaves, nodes, two[0], two[1]); len(p) > 0 || e != api.ErrNone {
				t.Errorf("%s: %v, %d", c.nodes, p, e)
			}
		}
	}
}

// P4.5: the leaves on which both depend together have at most 12 bits, a leaf counting once.
func TestTooManyBits(t *testing.T) {
	cases := []struct {
		leaves []int
		nodes  string
		want   api.Errno
	}{
		{list(12), "leaf 12 0;not 12 0;not 12 1", api.OK},
		{list(13), "leaf 13 0;not 13 0;not 13 1", api.ErrLarge},
		{list(6, 6, 16), "leaf 6 0;leaf 6 1;leaf 16 2;or 6 0 1;or 6 1 0", api.OK},
		{list(6, 7), "leaf 7 1;slice 6 0 0;leaf 6 0;or 6 1 2;or 6 2 1", api.ErrLarge},
		{list(6, 6, 1), "leaf 6 0;leaf 6 1;leaf 1 2;sext 6 2;add 6 0 1;add 6 1 0;and 6 3 4;and 6 3 5", api.ErrLarge},
		{list(6, 1, 6), "leaf 6 0;leaf 6 2;leaf 6 0;or 6 0 1;or 6 1 2", api.OK},
		{list(12, 1), "leaf 12 0;slice 1 0 0;leaf 1 1;xor 1 2 2;or 1 1 3;or 1 3 1", api.ErrLarge},
	}
	for _, c := range cases {
		nodes := nodesIn(t, c.leaves, c.nodes)
		a, b := len(nodes)-2, len(nodes)-1
		want := c.want
		if c.want == api.OK {
			want = api.ErrNone
			if nodes[b].Op != api.OpNot {
				checkEqual(t, c.leaves, nodes, a, b)
			}
		}
		if l, e := gates.DifferenceOf(c.leaves, nodes, a, b); nodes[b].Op != api.OpNot && (len(l) > 0 || e != want) {
			t.Errorf("%s: %v, %d", c.nodes, l, e)
		}
		proof, e := gates.EqualBy(c.leaves, nodes, a, b)
		if (e == api.ErrLarge) != (c.want == api.ErrLarge) || e != api.OK && len(proof) > 0 {
			t.Errorf("%s: %v, %d", c.nodes, proof, e)
		}
		if i, e := gates.CheckEqual(c.leaves, nodes, a, b, []api.CnfStep{{First: -1}}); i != 0 || (e == api.ErrLarge) != (c.want == api.ErrLarge) {
			t.Errorf("%s: %d, %d", c.nodes, i, e)
		}
		if _, e := gates.MiterOf(c.leaves, nodes, a, b); e != api.OK {
			t.Errorf("%s: %d", c.nodes, e)
		}
	}
}

// P4.5: a miter with more variables than formulas may have has no clauses, but a difference, or none.
func TestTooManyVariables(t *testing.T) {
	leaves := append(many(39, 16), 12)
	nodes := nodesIn(t, leaves, "leaf 12 39;mul 12 0 0;not 12 0;mul 12 2 2;const 12 1;add 12 2 4;mul 12 5 5;const 12 2049;eq 1 0 7;zext 12 8;xor 12 1 9")
	m := miterOf(t, leaves, nodes, 1, 6)
	if m.Leaves+len(m.Gates) <= api.MaxCnfVars {
		t.Fatal(len(m.Gates))
	}
	for _, b := range []int{6, 10} {
		if p, e := gates.EqualBy(leaves, nodes, 1, b); len(p) > 0 || (e == api.ErrLarge) != (b == 6) {
			t.Error(b, p, e)
		}
		if i, e := gates.CheckEqual(leaves, nodes, 1, b, []api.CnfStep{{First: math.MaxInt}}); i != 0 || (e == api.ErrLarge) != (b == 6) {
			t.Error(b, i, e)
		}
	}
	if l, e := gates.DifferenceOf(leaves, nodes, 1, 6); len(l) > 0 || e != api.ErrNone {
		t.Error(l, e)
	}
	if l, e := gates.DifferenceOf(leaves, nodes, 1, 10); !slices.Equal(l, append(many(39, 0), 2049)) || e != api.OK {
		t.Error(l, e)
	}
}

// P4.5: where the search for a proof of nodes with many gates finds one that is too long, it is not given out.
func TestNoProofFound(t *testing.T) {
	leaves := list(6, 6)
	nodes := nodesIn(t, leaves, "leaf 6 0;leaf 6 1;zext 8 0;zext 8 1;mul 8 2 3;mul 8 4 4;mul 8 2 2;mul 8 3 3;mul 8 6 7")
	if m := miterOf(t, leaves, nodes, 5, 8); len(m.Gates) <= api.MaxGateShort {
		t.Fatal(len(m.Gates))
	}
	proof, e := gates.EqualBy(leaves, nodes, 5, 8)
	if e == api.ErrFuel && len(proof) == 0 {
		return
	}
	if i, wrong := gates.CheckEqual(leaves, nodes, 5, 8, proof); e != api.OK || i != 0 || wrong != api.OK {
		t.Error(e, i, wrong)
	}
}
