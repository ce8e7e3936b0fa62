package gates_test

import (
	"math"
	"slices"
	"testing"

	"ratchet/api"
	"ratchet/gates"
	"ratchet/graph"
)

// P4.1: what is wrong in a graph.
func TestCheckGates(t *testing.T) {
	cases := []struct {
		name  string
		g     api.GateGraph
		index int
		want  api.Errno
	}{
		{"nothing", api.GateGraph{}, 0, api.OK},
		{"the example", example(), 0, api.OK},
		{"the most leaf bits", read("640;2 1280;1282 1283"), 0, api.OK},
		{"negative leaf bits", read("-1;;"), 0, api.ErrRange},
		{"too many leaf bits", read("641;;"), 0, api.ErrRange},
		{"the most negative number of leaf bits", api.GateGraph{Leaves: math.MinInt}, 0, api.ErrRange},
		{"too many leaf bits before too many gates", api.GateGraph{Leaves: 641, Gates: many(200001, [2]int{-1, 0})}, 0, api.ErrRange},
		{"the most gates", api.GateGraph{Gates: many(200000, [2]int{0, 1})}, 0, api.OK},
		{"too many gates", api.GateGraph{Gates: many(200001, [2]int{0, 1})}, 0, api.ErrLarge},
		{"too many gates before a wrong one", api.GateGraph{Gates: many(200001, [2]int{0, 9e6})}, 0, api.ErrLarge},
		{"the most outputs", api.GateGraph{Outputs: many(64, 1)}, 0, api.OK},
		{"too many outputs", api.GateGraph{Outputs: many(65, 1)}, 0, api.ErrLarge},
		{"too many outputs before a wrong gate", api.GateGraph{Gates: many(3, [2]int{7, 8}), Outputs: many(65, 9)}, 0, api.ErrLarge},
		{"constant literals", read("0;0 0,0 1,1 1;0 1 2 7"), 0, api.OK},
		{"the same point twice", read("1;2 2,2 3,3 3;"), 0, api.OK},
		{"the gate itself", read("1;2 3,2 6;"), 1, api.ErrMissing},
		{"the gate itself inverted", read("1;5 2;"), 0, api.ErrMissing},
		{"a gate after it", read("2;2 4,2 10,6 8;"), 1, api.ErrMissing},
		{"no such point", read("2;2 4,6 7,6 99;6"), 2, api.ErrMissing},
		{"a negative literal", read("2;2 4,-1 4;"), 1, api.ErrMissing},
		{"a negative literal that comes second", read("2;2 -2;"), 0, api.ErrMissing},
		{"the last literal before a gate", read("2;2 5,7 7;9"), 0, api.OK},
		{"an output that is no point", read("2;2 4;2 6 8"), 2, api.ErrMissing},
		{"an inverted output that is no point", read("2;2 4;7 9"), 1, api.ErrMissing},
		{"a negative output", read("2;2 4;-1"), 0, api.ErrMissing},
		{"the least output", api.GateGraph{Outputs: list(1, math.MinInt)}, 1, api.ErrMissing},
		{"the greatest literal", api.GateGraph{Gates: [][2]int{{0, math.MaxInt}}}, 0, api.ErrMissing},
		{"a wrong gate before a wrong output", read("2;2 4,2 4,2 10;99"), 2, api.ErrMissing},
	}
	for _, c := range cases {
		if i, e := gates.CheckGates(c.g); i != c.index || e != c.want {
			t.Errorf("%s: %d, %d, not %d, %d", c.name, i, e, c.index, c.want)
		}
	}
}

// The graphs of the tests have all that makes a difference, or they test nothing.
func TestGraphsHaveAll(t *testing.T) {
	plain, constants, twice, opposites, copies, spare := 0, 0, 0, 0, 0, 0
	eachGraph(func(d *dice, g api.GateGraph) {
		if i, e := gates.CheckGates(g); i != 0 || e != api.OK {
			t.Fatalf("%v: %d, %d", g, i, e)
		}
		if isPlain(g) {
			plain++
		}
		used := map[int]bool{}
		known := map[[2]int]bool{}
		for i, gate := range slices.Backward(g.Gates) {
			if gate[0]/2 == 0 || gate[1]/2 == 0 {
				constants++
			}
			if gate[0] == gate[1] {
				twice++
			}
			if gate[0]^gate[1] == 1 {
				opposites++
			}
			if known[gate] || known[[2]int{gate[1], gate[0]}] {
				copies++
			}
			if !used[1+g.Leaves+i] {
				spare++
			}
			known[gate], used[gate[0]/2], used[gate[1]/2] = true, true, true
		}
	})
	if min(plain, constants, twice, opposites, copies, spare) < 50 {
		t.Error(plain, constants, twice, opposites, copies, spare)
	}
}

// P4.1: the values of outputs, and the depth.
func TestOutputsAndDepth(t *testing.T) {
	eachGraph(func(d *dice, g api.GateGraph) {
		eachSetting(g.Leaves, func(leaves []int) {
			want := outputValues(g, leaves)
			if l, e := gates.OutputsOf(g, leaves); !slices.Equal(l, want) || e != api.OK {
				t.Fatalf("%v, %v: %v, %d, not %v", g, leaves, l, e, want)
			}
		})
		if n, e := gates.DepthOf(g); n != deepest(g) || e != api.OK {
			t.Fatalf("%v: %d, %d, not %d", g, n, e, deepest(g))
		}
	})
}

// P4.1: example 1, and graphs at the limits.
func TestOutputsExamples(t *testing.T) {
	row := api.GateGraph{Leaves: 640, Gates: [][2]int{{2, 4}}}
	for point := 641; point < 640+200000; point++ {
		row.Gates = append(row.Gates, [2]int{2 * point, 1})
	}
	row.Outputs = many(64, 2*(640+200000))
	cases := []struct {
		g            api.GateGraph
		leaves, want []int
		depth        int
	}{
		{example(), list(1, 0, 0), list(1), 2},
		{example(), list(0, 1, 0), list(1), 2},
		{example(), list(1, 1, 0), list(0), 2},
		{example(), list(0, 0, 1), list(0), 2},
		{read("0;;"), nil, nil, 0},
		{read("0;;0 1"), nil, list(0, 1), 0},
		{read("2;;2 3 4 5 1"), list(0, 1), list(0, 1, 1, 0, 1), 0},
		{read("2;2 4,6 6;"), list(0, 1), nil, 0},
		{read("2;2 4,6 6;6"), list(1, 1), list(1), 1},
		{read("2;2 4,1 6,8 9;4 9"), list(1, 1), list(1, 0), 2},
		{read("0;0 1,1 1;2 4 5"), nil, list(0, 1, 0), 1},
		{row, many(640, 1), many(64, 1), 200000},
	}
	for _, c := range cases {
		if l, e := gates.OutputsOf(c.g, c.leaves); !slices.Equal(l, c.want) || e != api.OK {
			t.Errorf("%d gates: %v, %d, not %v", len(c.g.Gates), l, e, c.want)
		}
		if n, e := gates.DepthOf(c.g); n != c.depth || e != api.OK {
			t.Errorf("%d gates: %d, %d, not %d", len(c.g.Gates), n, e, c.depth)
		}
	}
}

// P4.1: values that are none.
func TestOutputsErrors(t *testing.T) {
	cases := []struct {
		leaves []int
		want   api.Errno
	}{
		{list(0, 1, 1), api.OK},
		{nil, api.ErrShape},
		{list(0, 1), api.ErrShape},
		{list(0, 1, 1, 1), api.ErrShape},
		{list(2, 1, 1, 1), api.ErrShape},
		{list(0, 2, 1), api.ErrRange},
		{list(0, 0, -1), api.ErrRange},
		{list(math.MinInt, 0, 0), api.ErrRange},
		{list(0, math.MaxInt, 0), api.ErrRange},
	}
	for _, c := range cases {
		if l, e := gates.OutputsOf(example(), c.leaves); e != c.want || e != api.OK && len(l) > 0 {
			t.Errorf("%v: %v, %d, not %d", c.leaves, l, e, c.want)
		}
	}
}

// result is a result and an error.
type result struct {
	of any
	e  api.Errno
}

func resultOf[T any](of T, e api.Errno) result { return result{of, e} }

// graphCalls are the calls whose first errors are those of a graph. Their other arguments are wrong.
func graphCalls() map[string]func(g api.GateGraph) result {
	return map[string]func(g api.GateGraph) result{
		"OutputsOf": func(g api.GateGraph) result { return resultOf(gates.OutputsOf(g, many(700, 7))) },
		"DepthOf":   func(g api.GateGraph) result { return resultOf(gates.DepthOf(g)) },
		"Cleaned":   func(g api.GateGraph) result { return resultOf(gates.Cleaned(g)) },
		"ClausesOf": func(g api.GateGraph) result { return resultOf(gates.ClausesOf(g, -1)) },
		"CutsOf":    func(g api.GateGraph) result { return resultOf(gates.CutsOf(g, -1, -1)) },
		"TableOf":   func(g api.GateGraph) result { return resultOf(gates.TableOf(g, -1, list(5, 4, 3, 2, 1))) },
	}
}

// P4.1, P4.3, P4.4, P4.6: the errors of the graph come first, and every other result is zero beside them.
func TestErrorOfGraph(t *testing.T) {
	cases := []struct {
		g    api.GateGraph
		want api.Errno
	}{
		{read("-1;;"), api.ErrRange},
		{read("641;2 2,0 9999;7"), api.ErrRange},
		{api.GateGraph{Leaves: 3, Gates: many(200001, [2]int{0, 0})}, api.ErrLarge},
		{api.GateGraph{Leaves: 3, Gates: many(41, [2]int{0, 0}), Outputs: many(65, 0)}, api.ErrLarge},
		{read("3;2 2,0 1,4 12;2"), api.ErrMissing},
		{read("3;2 2,0 1,4 6;2 14"), api.ErrMissing},
	}
	for name, call := range graphCalls() {
		for i, c := range cases {
			if r := call(c.g); !isZero(r.of) || r.e != c.want {
				t.Errorf("%s, case %d: %v, %d, not %d", name, i, r.of, r.e, c.want)
			}
		}
	}
}

// R2 (every call returns), R1 (zero beside an error): extreme numbers at every place.
func TestExtremes(t *testing.T) {
	nodes := sums()
	for _, x := range extremes {
		for _, y := range extremes {
			graphs := []api.GateGraph{
				{Leaves: x, Gates: [][2]int{{y, y}, {0, 1}}, Outputs: list(y)},
				{Leaves: 3, Gates: [][2]int{{x, y}, {y, 8}}, Outputs: list(x, y)},
				{Leaves: 640, Gates: [][2]int{{2, 1281}, {x, y}}},
			}
			for _, g := range graphs {
				for name, call := range graphCalls() {
					if r := call(g); r.e != api.OK && !isZero(r.of) {
						t.Errorf("%s of %v: %v, %d", name, g, r.of, r.e)
					}
				}
				if s := gates.FormatGates(g); s == "" {
					t.Errorf("%v has no string", g)
				}
			}
			step := []api.CnfStep{{First: x, Second: y, Var: x}}
			for name, r := range map[string]result{
				"OutputsOf":    resultOf(gates.OutputsOf(example(), list(x, y, 0))),
				"ClausesOf":    resultOf(gates.ClausesOf(example(), x)),
				"CutsOf":       resultOf(gates.CutsOf(example(), x, y)),
				"TableOf":      resultOf(gates.TableOf(example(), x, list(y))),
				"of two":       resultOf(gates.TableOf(example(), 6, list(x, y))),
				"GatesOf":      resultOf(gates.GatesOf(list(x, y), nodes, 2)),
				"the node":     resultOf(gates.GatesOf(list(2, 2), nodes, x)),
				"MiterOf":      resultOf(gates.MiterOf(list(2, 2), nodes, x, y)),
				"DifferenceOf": resultOf(gates.DifferenceOf(list(2, 2), nodes, x, y)),
				"EqualBy":      resultOf(gates.EqualBy(list(2, 2), nodes, x, y)),
				"CheckEqual":   resultOf(gates.CheckEqual(list(2, 2), nodes, x, y, step)),
				"the step":     resultOf(gates.CheckEqual(list(2, 2), nodes, 2, 3, step)),
			} {
				if r.e != api.OK && !isZero(r.of) {
					t.Errorf("%s of %d, %d: %v, %d", name, x, y, r.of, r.e)
				}
			}
		}
	}
}

// R3, R4: no call changes its arguments, its results do not depend on what becomes of earlier ones, and they share no memory.
func TestMemory(t *testing.T) {
	g := read("3;2 4,3 5,9 11,12 6,14 2;12 15 17")
	leaves := list(2, 2)
	nodes := append(sums(), api.Node{Op: api.OpOr, Width: 2, Args: []int{0, 1}}, api.Node{Op: api.OpMul, Width: 2, Args: []int{5, 4}}, api.Node{Op: api.OpMul, Width: 2, Args: []int{4, 4}}, api.Node{Op: api.OpAnd, Width: 2, Args: []int{0, 1}}, api.Node{Op: api.OpAdd, Width: 2, Args: []int{5, 8}})
	values, cut := list(1, 0, 1), list(1, 2, 3)
	proof, _ := gates.EqualBy(leaves, nodes, 2, 9)
	wantG, wantNodes, wantProof := copyOf(g), graph.FormatNodes(nodes), slices.Clone(proof)
	rows := func(h api.GateGraph) [][]int {
		l := [][]int{h.Outputs}
		for _, gate := range h.Gates {
			l = append(l, gate[:])
		}
		return l
	}
	spoil := func(h *api.GateGraph) {
		for i := range h.Gates[:cap(h.Gates)] {
			h.Gates[:cap(h.Gates)][i] = [2]int{-7, -7}
		}
	}
	ofGraph := func(h api.GateGraph, e api.Errno) [][]int {
		l := rows(copyOf(h))
		spoil(&h)
		l[0] = h.Outputs
		return l
	}
	calls := map[string]func() [][]int{
		"OutputsOf": func() [][]int { l, _ := gates.OutputsOf(g, values); return [][]int{l} },
		"Cleaned":   func() [][]int { return ofGraph(gates.Cleaned(g)) },
		"GatesOf":   func() [][]int { return ofGraph(gates.GatesOf(leaves, nodes, 2)) },
		"the leaf":  func() [][]int { return ofGraph(gates.GatesOf(leaves, nodes, 0)) },
		"MiterOf":   func() [][]int { return ofGraph(gates.MiterOf(leaves, nodes, 2, 4)) },
		"ClausesOf": func() [][]int { f, _ := gates.ClausesOf(g, 12); return f.Clauses },
		"CutsOf":    func() [][]int { l, _ := gates.CutsOf(g, 8, 4); return l },
		"TableOf":   func() [][]int { n, _ := gates.TableOf(g, 8, cut); return [][]int{{n}} },
		"ParseGates": func() [][]int {
			return ofGraph(gates.ParseGates(gates.FormatGates(g)))
		},
		"DifferenceOf": func() [][]int { l, _ := gates.DifferenceOf(leaves, nodes, 2, 4); return [][]int{l} },
		"EqualBy": func() [][]int {
			p, _ := gates.EqualBy(leaves, nodes, 2, 9)
			var l [][]int
			for _, step := range p {
				l = append(l, list(step.First, step.Second, step.Var))
			}
			return l
		},
		"CheckEqual": func() [][]int {
			i, e := gates.CheckEqual(leaves, nodes, 2, 9, proof)
			return [][]int{{i, int(e)}}
		},
	}
	for name, call := range calls {
		l := call()
		if len(l) == 0 || len(l[0]) == 0 {
			t.Fatalf("%s: no result", name)
		}
		first := make([][]int, len(l))
		for i := range l {
			first[i] = slices.Clone(l[i])
		}
		for i := range l { // also behind the ends of the arguments, up to their capacities
			all := l[i][:cap(l[i])]
			for j := range all {
				all[j] = -7
			}
			for j := i + 1; j < len(l); j++ {
				if !slices.Equal(l[j], first[j]) {
					t.Errorf("%s: the parts %d and %d share memory", name, i, j)
				}
			}
		}
		if !same(g, wantG) || !slices.Equal(leaves, list(2, 2)) || graph.FormatNodes(nodes) != wantNodes || !slices.Equal(proof, wantProof) || !slices.Equal(values, list(1, 0, 1)) || !slices.Equal(cut, list(1, 2, 3)) {
			t.Fatalf("%s: an argument has changed", name)
		}
		if again := call(); !slices.EqualFunc(again, first, slices.Equal[[]int]) {
			t.Errorf("%s: another result the second time", name)
		}
	}
}

// R5: nil slices are empty ones.
func TestNil(t *testing.T) {
	var g api.GateGraph
	constant := []api.Node{{Op: api.OpConst, Width: 1, Value: 1}}
	cases := map[string]struct {
		got  result
		want any
	}{
		"CheckGates":   {resultOf(gates.CheckGates(g)), 0},
		"OutputsOf":    {resultOf(gates.OutputsOf(g, nil)), nil},
		"DepthOf":      {resultOf(gates.DepthOf(g)), 0},
		"Cleaned":      {resultOf(gates.Cleaned(g)), nil},
		"CheckEqual":   {resultOf(gates.CheckEqual(nil, constant, 0, 0, nil)), 0},
		"EqualBy":      {resultOf(gates.EqualBy(nil, constant, 0, 0)), nil},
		"FormatGates":  {resultOf(gates.FormatGates(g), api.OK), "0;;"},
		"ParseGates":   {resultOf(gates.ParseGates("0;;")), nil},
		"TableOf":      {resultOf(gates.TableOf(api.GateGraph{Leaves: 1}, 1, list(1))), 2},
		"the constant": {resultOf(gates.ClausesOf(g, 1)), nil},
	}
	for name, c := range cases {
		right := c.want == nil && isZero(c.got.of) || c.want == c.got.of
		if !right || c.got.e != api.OK {
			t.Errorf("%s: %v, %d, not %v", name, c.got.of, c.got.e, c.want)
		}
	}
	if f, e := gates.ClausesOf(g, 0); f.Vars != 0 || len(f.Clauses) != 1 || len(f.Clauses[0]) != 0 || e != api.OK {
		t.Error(f, e)
	}
	if h, e := gates.GatesOf(nil, constant, 0); !same(h, read("0;;1")) || e != api.OK {
		t.Error(h, e)
	}
	if _, e := gates.GatesOf(nil, nil, 0); e != api.ErrMissing {
		t.Error(e)
	}
}
