package graph_test

import (
	"math"
	"reflect"
	"slices"
	"testing"

	"ratchet/api"
	"ratchet/graph"
)

func con(width, value int) api.Node { return api.Node{Op: api.OpConst, Width: width, Value: value} }

func leaf(width, index int) api.Node { return api.Node{Op: api.OpLeaf, Width: width, Value: index} }

func op(kind, width int, args ...int) api.Node { return api.Node{Op: kind, Width: width, Args: args} }

func slice(width, value int, args ...int) api.Node {
	return api.Node{Op: api.OpSlice, Width: width, Args: args, Value: value}
}

func list(nodes ...api.Node) []api.Node { return nodes }

// exampleLeaves and exampleNodes are those of the chapter's examples.
func exampleLeaves() []int { return []int{4, 1} }

func exampleNodes() []api.Node {
	return list(leaf(4, 0), con(4, 3), op(api.OpAdd, 4, 0, 1), leaf(1, 1), op(api.OpMux, 4, 3, 2, 0), op(api.OpLess, 1, 4, 1))
}

// extremes are numbers at which careless arithmetic panics or wraps around.
var extremes = []int{math.MinInt, math.MinInt + 1, math.MinInt32, -65536, -17, -16, -2, -1, 0, 1, 2, 3, 15, 16, 17, 18, 19, 31, 32, 63, 64, 65, 65535, 65536, math.MaxInt32, math.MaxInt - 1, math.MaxInt}

// power is 2 to the power n, without shifts.
func power(n int) int {
	p := 1
	for range n {
		p *= 2
	}
	return p
}

// sameNodes is equality in which no arguments are an empty list of them.
func sameNodes(a, b []api.Node) bool {
	return slices.EqualFunc(a, b, func(x, y api.Node) bool {
		return x.Op == y.Op && x.Width == y.Width && x.Value == y.Value && slices.Equal(x.Args, y.Args)
	})
}

// copyOf is nodes that share no memory with others.
func copyOf(nodes []api.Node) []api.Node {
	l := slices.Clone(nodes)
	for i := range l {
		l[i].Args = slices.Clone(l[i].Args)
	}
	return l
}

// many is as many equal widths.
func many(count, width int) []int {
	l := make([]int, count)
	for i := range l {
		l[i] = width
	}
	return l
}

// manyNodes is as many equal constants.
func manyNodes(count int) []api.Node {
	l := make([]api.Node, count)
	for i := range l {
		l[i] = con(1, 1)
	}
	return l
}

// P2.1: what is wrong in leaves and their number.
func TestCheckLeaves(t *testing.T) {
	cases := []struct {
		name   string
		leaves []int
		nodes  []api.Node
		index  int
		want   api.Errno
	}{
		{"nothing", nil, nil, 0, api.OK},
		{"no nodes over leaves", []int{1, 16}, nil, 0, api.OK},
		{"the most leaves", many(40, 16), nil, 0, api.OK},
		{"too many leaves", many(41, 16), nil, 0, api.ErrLarge},
		{"too many leaves, before a wrong one", many(41, 0), nil, 0, api.ErrLarge},
		{"width 0", []int{0}, nil, 0, api.ErrRange},
		{"width 17", []int{1, 16, 17}, nil, 2, api.ErrRange},
		{"negative width", []int{1, -1, 17}, nil, 1, api.ErrRange},
		{"a wrong leaf, before too many nodes", []int{1, 0}, manyNodes(401), 1, api.ErrRange},
		{"the most nodes", nil, manyNodes(400), 0, api.OK},
		{"too many nodes", nil, manyNodes(401), 0, api.ErrLarge},
		{"too many nodes, before a wrong one", nil, make([]api.Node, 401), 0, api.ErrLarge},
		{"a leaf that no node uses", []int{1, 40}, list(leaf(1, 0)), 1, api.ErrRange},
	}
	for _, c := range cases {
		if i, e := graph.CheckNodes(c.leaves, c.nodes); i != c.index || e != c.want {
			t.Errorf("%s: %d, %d, not %d, %d", c.name, i, e, c.index, c.want)
		}
	}
}

// P2.1: what is wrong in a node, after the nodes 0 (width 4), 1 (width 1) and 2 (width 7) over the leaves 4, 1, 16.
func TestCheckNode(t *testing.T) {
	before := list(leaf(4, 0), leaf(1, 1), con(7, 127))
	cases := []struct {
		name string
		node api.Node
		want api.Errno
	}{
		{"kind below all", api.Node{Op: -1, Width: 4}, api.ErrKind},
		{"kind above all", api.Node{Op: api.OpCount, Width: 4}, api.ErrKind},
		{"wrong kind before wrong width", api.Node{Op: api.OpCount, Width: 0, Args: []int{9}, Value: -1}, api.ErrKind},
		{"width 0", con(0, 0), api.ErrRange},
		{"width 17", con(17, 0), api.ErrRange},
		{"wrong width before wrong number of arguments", op(api.OpNot, 17, 0, 0), api.ErrRange},
		{"an argument of a constant", api.Node{Op: api.OpConst, Width: 4, Value: 3, Args: []int{0}}, api.ErrShape},
		{"an argument of a leaf", api.Node{Op: api.OpLeaf, Width: 4, Value: 0, Args: []int{0}}, api.ErrShape},
		{"wrong number of arguments before wrong order", op(api.OpNot, 4, 3, 3), api.ErrShape},
		{"wrong number of arguments before wrong value", api.Node{Op: api.OpConst, Width: 4, Value: 16, Args: []int{0}}, api.ErrShape},
		{"itself", op(api.OpNot, 4, 3), api.ErrOrder},
		{"a later one", op(api.OpAnd, 4, 0, 4), api.ErrOrder},
		{"negative argument", op(api.OpMux, 4, 1, 0, -1), api.ErrOrder},
		{"wrong order before wrong value", api.Node{Op: api.OpNot, Width: 4, Args: []int{3}, Value: 1}, api.ErrOrder},
		{"wrong order before wrong slice", slice(4, 16, 3), api.ErrOrder},
		{"constant", con(4, 15), api.OK},
		{"constant 0", con(1, 0), api.OK},
		{"greatest constant", con(16, 65535), api.OK},
		{"constant too great", con(4, 16), api.ErrRange},
		{"constant far too great", con(16, 65536), api.ErrRange},
		{"negative constant", con(4, -1), api.ErrRange},
		{"last leaf", leaf(16, 2), api.OK},
		{"no such leaf", leaf(4, 3), api.ErrMissing},
		{"negative leaf", leaf(4, -1), api.ErrMissing},
		{"a leaf of another width", leaf(4, 1), api.ErrWidth},
		{"slice from 16", slice(1, 16, 0), api.ErrRange},
		{"slice from -1", slice(1, -1, 0), api.ErrRange},
		{"slice from 15, outside", slice(1, 15, 0), api.ErrWidth},
		{"a value of not", api.Node{Op: api.OpNot, Width: 4, Args: []int{0}, Value: 1}, api.ErrForm},
		{"a negative value of shl", api.Node{Op: api.OpShiftLeft, Width: 4, Args: []int{0, 0}, Value: -1}, api.ErrForm},
		{"a value before wrong widths", api.Node{Op: api.OpNot, Width: 5, Args: []int{0}, Value: 1}, api.ErrForm},
	}
	for _, c := range cases {
		index := 3
		if c.want == api.OK {
			index = 0
		}
		if i, e := graph.CheckNodes([]int{4, 1, 16}, append(copyOf(before), c.node)); i != index || e != c.want {
			t.Errorf("%s: %d, %d, not %d, %d", c.name, i, e, index, c.want)
		}
	}
}

// argCounts are the numbers of arguments of all operations.
var argCounts = [api.OpCount]int{0, 0, 1, 2, 2, 2, 2, 2, 2, 2, 2, 2, 3, 2, 1, 1, 1, 2, 2}

// P2.1: each operation has its number of arguments, and only const, leaf and slice have a value.
func TestCheckArguments(t *testing.T) {
	for kind := range api.OpCount {
		for count := range 6 {
			n := api.Node{Op: kind, Width: 1, Args: make([]int, count)}
			want := api.OK
			if count != argCounts[kind] {
				want = api.ErrShape
			} else if kind == api.OpJoin {
				want = api.ErrWidth // two bits are more than one
			}
			if _, e := graph.CheckNodes([]int{1}, list(leaf(1, 0), n)); e != want {
				t.Errorf("operation %d with %d arguments: %d, not %d", kind, count, e, want)
			}
		}
		n := api.Node{Op: kind, Width: 1, Args: make([]int, argCounts[kind]), Value: 1}
		_, e := graph.CheckNodes([]int{1, 1}, list(leaf(1, 0), n))
		want := map[int]api.Errno{api.OpConst: api.OK, api.OpLeaf: api.OK, api.OpSlice: api.ErrWidth}
		if w, has := want[kind]; has && e != w || !has && e != api.ErrForm {
			t.Errorf("operation %d with a value: %d", kind, e)
		}
	}
}

// fitting says whether widths fit, as the chapter lists it.
func fitting(kind, width, value int, args []int) bool {
	switch kind {
	case api.OpNot, api.OpShiftLeft, api.OpShiftRight:
		return args[0] == width
	case api.OpAnd, api.OpOr, api.OpXor, api.OpAdd, api.OpSub, api.OpMul:
		return args[0] == width && args[1] == width
	case api.OpEqual, api.OpLess, api.OpLessSigned:
		return args[0] == args[1] && width == 1
	case api.OpMux:
		return args[0] == 1 && args[1] == width && args[2] == width
	case api.OpJoin:
		return args[0]+args[1] == width
	case api.OpSlice:
		return value+width <= args[0]
	}
	return args[0] <= width
}

// P2.1: the widths of all operations with arguments, each of 1, 2, 3, 15 and 16 bits.
func TestCheckWidths(t *testing.T) {
	widths := []int{1, 2, 3, 15, 16}
	var before []api.Node
	for i, width := range widths {
		before = append(before, leaf(width, i))
	}
	check := func(n api.Node) {
		var args []int
		for _, arg := range n.Args {
			args = append(args, widths[arg])
		}
		index, want := 0, api.OK
		if !fitting(n.Op, n.Width, n.Value, args) {
			index, want = len(before), api.ErrWidth
		}
		if i, e := graph.CheckNodes(widths, append(copyOf(before), n)); i != index || e != want {
			t.Errorf("%v: %d, %d, not %d, %d", n, i, e, index, want)
		}
	}
	for kind := api.OpNot; kind < api.OpCount; kind++ {
		count := argCounts[kind]
		combinations := 1
		for range count {
			combinations *= len(widths)
		}
		for number := range combinations {
			n := api.Node{Op: kind}
			for range count {
				n.Args = append(n.Args, number%len(widths))
				number /= len(widths)
			}
			for n.Width = 1; n.Width <= api.MaxWidth; n.Width++ {
				check(n)
				for n.Value = 1; kind == api.OpSlice && n.Value < api.MaxWidth; n.Value++ {
					check(n)
				}
				n.Value = 0
			}
		}
	}
}

// P2.1: the first node that is wrong is named, whatever is wrong with later ones.
func TestCheckFirstNode(t *testing.T) {
	nodes := list(leaf(4, 0), con(4, 3), op(api.OpAdd, 4, 0, 7), op(api.OpCount, 4))
	if i, e := graph.CheckNodes([]int{4}, nodes); i != 2 || e != api.ErrOrder {
		t.Error(i, e)
	}
	if i, e := graph.CheckNodes([]int{4}, list(op(api.OpNot, 4, 0))); i != 0 || e != api.ErrOrder {
		t.Error(i, e)
	}
}

// call is a function of the chapter: whether all of its results are zero, and its error.
type call func(leaves []int, nodes []api.Node) (bool, api.Errno)

// graphCalls are the calls whose first errors are those of leaves and nodes. Their other arguments are wrong, unless there are none.
func graphCalls() map[string]call {
	wrong := []int{-1}
	return map[string]call{
		"ValuesOf": func(leaves []int, nodes []api.Node) (bool, api.Errno) {
			r, e := graph.ValuesOf(leaves, nodes, many(99, -1))
			return len(r) == 0, e
		},
		"BelowOf": func(leaves []int, nodes []api.Node) (bool, api.Errno) {
			r, e := graph.BelowOf(leaves, nodes, wrong)
			return len(r) == 0, e
		},
		"LeavesOf": func(leaves []int, nodes []api.Node) (bool, api.Errno) {
			r, e := graph.LeavesOf(leaves, nodes, wrong)
			return len(r) == 0, e
		},
		"DepthsOf": func(leaves []int, nodes []api.Node) (bool, api.Errno) {
			r, e := graph.DepthsOf(leaves, nodes)
			return len(r) == 0, e
		},
		"SharedOf": func(leaves []int, nodes []api.Node) (bool, api.Errno) {
			r, m, e := graph.SharedOf(leaves, nodes)
			return len(r) == 0 && len(m) == 0, e
		},
		"FoldedOf": func(leaves []int, nodes []api.Node) (bool, api.Errno) {
			r, e := graph.FoldedOf(leaves, nodes)
			return len(r) == 0, e
		},
		"ConeOf": func(leaves []int, nodes []api.Node) (bool, api.Errno) {
			r, m, e := graph.ConeOf(leaves, nodes, wrong)
			return len(r) == 0 && len(m) == 0, e
		},
		"Substituted": func(leaves []int, nodes []api.Node) (bool, api.Errno) {
			r, e := graph.Substituted(leaves, nodes, -1, -1)
			return len(r) == 0, e
		},
		"Appended, a": func(leaves []int, nodes []api.Node) (bool, api.Errno) {
			r, m, e := graph.Appended(leaves, nodes, list(op(api.OpCount, 1)))
			return len(r) == 0 && len(m) == 0, e
		},
		"Appended, b": func(leaves []int, nodes []api.Node) (bool, api.Errno) {
			r, m, e := graph.Appended(leaves, manyNodes(400), nodes)
			return len(r) == 0 && len(m) == 0, e
		},
		"DifferenceOf": func(leaves []int, nodes []api.Node) (bool, api.Errno) {
			r, e := graph.DifferenceOf(leaves, nodes, -1, -1)
			return len(r) == 0, e
		},
		"ConstantAt": func(leaves []int, nodes []api.Node) (bool, api.Errno) {
			r, e := graph.ConstantAt(leaves, nodes, -1)
			return r == 0, e
		},
	}
}

// P2.2 to P2.5: the errors of the leaves and nodes come first, and every other result is zero beside them.
func TestErrorOfGraph(t *testing.T) {
	cases := []struct {
		leaves []int
		nodes  []api.Node
		want   api.Errno
	}{
		{many(41, 1), nil, api.ErrLarge},
		{[]int{0}, nil, api.ErrRange},
		{[]int{-1, 70}, list(leaf(1, 0)), api.ErrRange},
		{[]int{4}, manyNodes(401), api.ErrLarge},
		{[]int{4}, list(con(1, 1), op(api.OpCount, 4)), api.ErrKind},
		{[]int{4}, list(con(1, 2)), api.ErrRange},
		{[]int{4}, list(op(api.OpAdd, 4)), api.ErrShape},
		{[]int{4}, list(op(api.OpNot, 4, 0)), api.ErrOrder},
		{[]int{4}, list(leaf(4, 1)), api.ErrMissing},
		{[]int{4}, list(leaf(3, 0)), api.ErrWidth},
		{[]int{4}, list(leaf(4, 0), api.Node{Op: api.OpNot, Width: 4, Args: []int{0}, Value: 1}), api.ErrForm},
		{[]int{4}, list(leaf(4, 0), op(api.OpEqual, 4, 0, 0)), api.ErrWidth},
	}
	for name, f := range graphCalls() {
		for i, c := range cases {
			if zero, e := f(c.leaves, c.nodes); !zero || e != c.want {
				t.Errorf("%s, case %d: zero %t, %d, not %d", name, i, zero, e, c.want)
			}
		}
	}
}

// P2.2, P2.3, P2.5: nodes that are named must exist.
func TestErrorOfNames(t *testing.T) {
	leaves, nodes := exampleLeaves(), exampleNodes()
	for _, n := range []int{-1, 6, math.MinInt, math.MaxInt} {
		from := []int{5, 0, n, 1}
		if l, e := graph.BelowOf(leaves, nodes, from); len(l) != 0 || e != api.ErrMissing {
			t.Error("BelowOf", n, l, e)
		}
		if l, e := graph.LeavesOf(leaves, nodes, from); len(l) != 0 || e != api.ErrMissing {
			t.Error("LeavesOf", n, l, e)
		}
		if l, m, e := graph.ConeOf(leaves, nodes, from); len(l) != 0 || len(m) != 0 || e != api.ErrMissing {
			t.Error("ConeOf", n, l, m, e)
		}
		if l, e := graph.DifferenceOf(leaves, nodes, n, 0); len(l) != 0 || e != api.ErrMissing {
			t.Error("DifferenceOf, a", n, l, e)
		}
		if l, e := graph.DifferenceOf(leaves, nodes, 0, n); len(l) != 0 || e != api.ErrMissing {
			t.Error("DifferenceOf, b", n, l, e)
		}
		if v, e := graph.ConstantAt(leaves, nodes, n); v != 0 || e != api.ErrMissing {
			t.Error("ConstantAt", n, v, e)
		}
	}
}

// R2 (every call returns), R1 (zero beside an error): extreme numbers at every place.
func TestExtremes(t *testing.T) {
	graphs := func(x, y int) [][]api.Node {
		return [][]api.Node{
			list(api.Node{Op: x, Width: y, Args: []int{x, y}, Value: x}),
			list(con(4, 3), api.Node{Op: x, Width: 4, Args: []int{0, 0}, Value: y}),
			list(con(x, y)),
			list(leaf(x, y)),
			list(con(16, 9), slice(x, y, 0)),
			list(con(16, 9), op(api.OpExtendSigned, x, y)),
		}
	}
	for _, x := range extremes {
		for _, y := range extremes {
			for _, nodes := range graphs(x, y) {
				for name, f := range graphCalls() {
					for _, leaves := range [][]int{nil, {x}, {16, y}} {
						if zero, e := f(leaves, nodes); e != api.OK && !zero {
							t.Errorf("%s of %v over %v: an error %d and a result", name, nodes, leaves, e)
						}
					}
				}
				if s := graph.FormatNodes(nodes); s == "" {
					t.Errorf("%v has no string", nodes)
				}
			}
		}
	}
}

// R3, R4: no call changes its arguments, its results do not depend on what becomes of earlier ones, and they share no memory.
func TestMemory(t *testing.T) {
	leaves, nodes := exampleLeaves(), exampleNodes()
	nodes = append(nodes, con(4, 3), op(api.OpAdd, 4, 0, 6), op(api.OpXor, 4, 1, 6))
	wantLeaves, wantNodes := slices.Clone(leaves), copyOf(nodes)
	from, values := []int{5, 2}, []int{14, 1}
	graphsOf := map[string]func() ([]api.Node, []int){
		"SharedOf":    func() ([]api.Node, []int) { l, m, _ := graph.SharedOf(leaves, nodes); return l, m },
		"FoldedOf":    func() ([]api.Node, []int) { l, _ := graph.FoldedOf(leaves, nodes); return l, nil },
		"ConeOf":      func() ([]api.Node, []int) { l, m, _ := graph.ConeOf(leaves, nodes, from); return l, m },
		"Substituted": func() ([]api.Node, []int) { l, _ := graph.Substituted(leaves, nodes, 1, 0); return l, nil },
		"Appended":    func() ([]api.Node, []int) { l, m, _ := graph.Appended(leaves, nodes, nodes); return l, m },
		"ParseNodes": func() ([]api.Node, []int) {
			l, _ := graph.ParseNodes(leaves, graph.FormatNodes(nodes)+";slice 2 1 0")
			return l, nil
		},
		"ValuesOf":     func() ([]api.Node, []int) { l, _ := graph.ValuesOf(leaves, nodes, values); return nil, l },
		"BelowOf":      func() ([]api.Node, []int) { l, _ := graph.BelowOf(leaves, nodes, from); return nil, l },
		"LeavesOf":     func() ([]api.Node, []int) { l, _ := graph.LeavesOf(leaves, nodes, from); return nil, l },
		"DepthsOf":     func() ([]api.Node, []int) { l, _ := graph.DepthsOf(leaves, nodes); return nil, l },
		"DifferenceOf": func() ([]api.Node, []int) { l, _ := graph.DifferenceOf(leaves, nodes, 0, 1); return nil, l },
	}
	for name, f := range graphsOf {
		l, m := f()
		first, firstMap := copyOf(l), slices.Clone(m)
		for i := range l { // also behind the ends of the arguments, up to their capacities
			args := l[i].Args[:cap(l[i].Args)]
			for j := range args {
				args[j] = -7
			}
			l[i].Args = append(l[i].Args, -7)
			for j := range l {
				if j > i && !slices.Equal(l[j].Args, first[j].Args) {
					t.Errorf("%s: the nodes %d and %d share memory", name, i, j)
				}
			}
			l[i].Op, l[i].Value = -7, -7
		}
		m = m[:cap(m)]
		for i := range m {
			m[i] = -7
		}
		if !reflect.DeepEqual(leaves, wantLeaves) || !reflect.DeepEqual(nodes, wantNodes) || !slices.Equal(from, []int{5, 2}) || !slices.Equal(values, []int{14, 1}) {
			t.Fatalf("%s: an argument has changed", name)
		}
		if again, againMap := f(); !sameNodes(again, first) || !slices.Equal(againMap, firstMap) {
			t.Errorf("%s: another result the second time", name)
		}
	}
}

// R5: nil slices are empty ones.
func TestNil(t *testing.T) {
	for name, f := range map[string]func() (bool, api.Errno){
		"CheckNodes":  func() (bool, api.Errno) { i, e := graph.CheckNodes(nil, nil); return i == 0, e },
		"ValuesOf":    func() (bool, api.Errno) { l, e := graph.ValuesOf(nil, nil, nil); return len(l) == 0, e },
		"BelowOf":     func() (bool, api.Errno) { l, e := graph.BelowOf(nil, nil, nil); return len(l) == 0, e },
		"LeavesOf":    func() (bool, api.Errno) { l, e := graph.LeavesOf(nil, nil, nil); return len(l) == 0, e },
		"DepthsOf":    func() (bool, api.Errno) { l, e := graph.DepthsOf(nil, nil); return len(l) == 0, e },
		"SharedOf":    func() (bool, api.Errno) { l, m, e := graph.SharedOf(nil, nil); return len(l)+len(m) == 0, e },
		"FoldedOf":    func() (bool, api.Errno) { l, e := graph.FoldedOf(nil, nil); return len(l) == 0, e },
		"ConeOf":      func() (bool, api.Errno) { l, m, e := graph.ConeOf(nil, nil, nil); return len(l)+len(m) == 0, e },
		"Appended":    func() (bool, api.Errno) { l, m, e := graph.Appended(nil, nil, nil); return len(l)+len(m) == 0, e },
		"FormatNodes": func() (bool, api.Errno) { return graph.FormatNodes(nil) == "", api.OK },
		"ParseNodes":  func() (bool, api.Errno) { l, e := graph.ParseNodes(nil, ""); return len(l) == 0, e },
	} {
		if empty, e := f(); !empty || e != api.OK {
			t.Errorf("%s: empty %t, %d", name, empty, e)
		}
	}
}
