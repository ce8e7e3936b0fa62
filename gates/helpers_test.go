package gates_test

import (
	"math"
	"reflect"
	"slices"
	"strconv"
	"strings"
	"testing"

	"ratchet/api"
	"ratchet/graph"
)

// list is numbers.
func list(numbers ...int) []int { return numbers }

// numbersIn is the numbers of a string with blanks between them.
func numbersIn(s string) []int {
	var l []int
	for _, word := range strings.Fields(s) {
		n, err := strconv.Atoi(word)
		if err != nil {
			panic(err)
		}
		l = append(l, n)
	}
	return l
}

// read is the graph with a string, without any check.
func read(s string) api.GateGraph {
	parts := strings.Split(s, ";")
	g := api.GateGraph{Leaves: numbersIn(parts[0])[0], Outputs: numbersIn(parts[2])}
	for _, part := range strings.Split(parts[1], ",") {
		if l := numbersIn(part); len(l) == 2 {
			g.Gates = append(g.Gates, [2]int(l))
		}
	}
	return g
}

// example is the graph of the chapter's examples.
func example() api.GateGraph {
	return api.GateGraph{Leaves: 3, Gates: [][2]int{{2, 4}, {3, 5}, {9, 11}}, Outputs: []int{12}}
}

// nodesIn is the nodes with a string.
func nodesIn(t *testing.T, leaves []int, s string) []api.Node {
	t.Helper()
	nodes, e := graph.ParseNodes(leaves, s)
	if e != api.OK {
		t.Fatalf("%q: %d", s, e)
	}
	return nodes
}

// sums is the nodes of example 5: a, b, a + b, b + a, a | b over two leaves of 2 bits.
func sums() []api.Node {
	return []api.Node{
		{Op: api.OpLeaf, Width: 2},
		{Op: api.OpLeaf, Width: 2, Value: 1},
		{Op: api.OpAdd, Width: 2, Args: []int{0, 1}},
		{Op: api.OpAdd, Width: 2, Args: []int{1, 0}},
		{Op: api.OpOr, Width: 2, Args: []int{0, 1}},
	}
}

// extremes are numbers at which careless arithmetic panics or wraps around.
var extremes = []int{math.MinInt, math.MinInt + 1, math.MinInt32, -13, -2, -1, 0, 1, 2, 3, 4, 5, 6, 7, 8, 12, 13, 14, 41, 63, 64, 640, 641, 1281, 1282, 200000, 200001, math.MaxInt32, math.MaxInt/2 - 1, math.MaxInt / 2, math.MaxInt - 1, math.MaxInt}

// many is as many equal items.
func many[T any](count int, item T) []T {
	l := make([]T, count)
	for i := range l {
		l[i] = item
	}
	return l
}

// copyOf is a graph that shares no memory with another one.
func copyOf(g api.GateGraph) api.GateGraph {
	g.Gates, g.Outputs = slices.Clone(g.Gates), slices.Clone(g.Outputs)
	return g
}

// same is equality in which a nil slice is an empty one.
func same(a, b api.GateGraph) bool {
	return a.Leaves == b.Leaves && slices.Equal(a.Gates, b.Gates) && slices.Equal(a.Outputs, b.Outputs)
}

// isZero says whether a result is the zero value, or an empty slice.
func isZero(result any) bool {
	v := reflect.ValueOf(result)
	switch v.Kind() {
	case reflect.Slice:
		return v.Len() == 0
	case reflect.Struct:
		for i := range v.NumField() {
			if !isZero(v.Field(i).Interface()) {
				return false
			}
		}
		return true
	}
	return v.IsZero()
}

// power is 2 to the power of a number.
func power(n int) int {
	p := 1
	for range n {
		p *= 2
	}
	return p
}

// bitAt is a bit of a number.
func bitAt(number, i int) int { return number / power(i) % 2 }

// eachSetting visits all values of some bits in lexicographic order.
func eachSetting(bits int, visit func(values []int)) {
	for number := range power(bits) {
		values := make([]int, bits)
		for i := range values {
			values[i] = bitAt(number, bits-1-i)
		}
		visit(values)
	}
}

// eachValues visits all values of some leaves in lexicographic order.
func eachValues(leaves []int, visit func(values []int)) {
	if len(leaves) == 0 {
		visit(nil)
		return
	}
	for value := range power(leaves[0]) {
		eachValues(leaves[1:], func(values []int) { visit(append([]int{value}, values...)) })
	}
}

// bitsOf is the bits of the values of leaves, from the lowest one on.
func bitsOf(leaves, values []int) []int {
	var bits []int
	for i, width := range leaves {
		for k := range width {
			bits = append(bits, bitAt(values[i], k))
		}
	}
	return bits
}

// pointValues is the values of all points: the chapter's definition.
func pointValues(g api.GateGraph, leaves []int) []int {
	values := append([]int{0}, leaves...)
	for _, gate := range g.Gates {
		both := 1
		for _, literal := range gate {
			if literalValue(values, literal) == 0 {
				both = 0
			}
		}
		values = append(values, both)
	}
	return values
}

// literalValue is the value of a literal by those of the points.
func literalValue(values []int, literal int) int {
	if literal%2 == 1 {
		return 1 - values[literal/2]
	}
	return values[literal/2]
}

// outputValues is the values of all outputs.
func outputValues(g api.GateGraph, leaves []int) []int {
	values := pointValues(g, leaves)
	var l []int
	for _, output := range g.Outputs {
		l = append(l, literalValue(values, output))
	}
	return l
}

// deepest is the depth of a graph: how many gates there are at most on a way down from an output.
func deepest(g api.GateGraph) int {
	depths := make([]int, 1+g.Leaves+len(g.Gates))
	for i, gate := range g.Gates {
		depths[1+g.Leaves+i] = 1 + max(depths[gate[0]/2], depths[gate[1]/2])
	}
	depth := 0
	for _, output := range g.Outputs {
		depth = max(depth, depths[output/2])
	}
	return depth
}

// isPlain says whether no gate has a constant literal, or the same point twice.
func isPlain(g api.GateGraph) bool {
	for _, gate := range g.Gates {
		if gate[0]/2 == 0 || gate[1]/2 == 0 || gate[0]/2 == gate[1]/2 {
			return false
		}
	}
	return true
}

// dice is a row of numbers that look as if they were random, always the same.
type dice struct{ state uint64 }

// roll is a number below another one.
func (d *dice) roll(below int) int {
	d.state = d.state*6364136223846793005 + 1442695040888963407
	return int(d.state >> 33 % uint64(below))
}

// graph is a valid graph. Its gates have literals of points that are mostly close to them; if it is plain, no constant ones, and no point twice.
func (d *dice) graph(leaves, gates, outputs int, plain bool) api.GateGraph {
	g := api.GateGraph{Leaves: leaves}
	for range gates {
		points := 1 + leaves + len(g.Gates)
		pick := func() int {
			point := points - 1 - d.roll(min(points, 6))
			if d.roll(3) == 0 {
				point = d.roll(points)
			}
			return 2*point + d.roll(2)
		}
		gate := [2]int{pick(), pick()}
		for plain && (gate[0]/2 == 0 || gate[1]/2 == 0 || gate[0]/2 == gate[1]/2) {
			gate = [2]int{pick(), pick()}
		}
		g.Gates = append(g.Gates, gate)
	}
	for range outputs {
		g.Outputs = append(g.Outputs, d.roll(2*(1+leaves+gates)))
	}
	return g
}

// eachGraph visits many small graphs, plain ones and others.
func eachGraph(visit func(d *dice, g api.GateGraph)) {
	d := &dice{state: 4}
	for i := range 600 {
		plain := i%2 == 0
		leaves := d.roll(6)
		if plain {
			leaves += 2
		}
		visit(d, d.graph(leaves, d.roll(14), d.roll(4), plain))
	}
}

// node is a valid node after others, over leaves, with widths of at most a number of bits.
func (d *dice) node(leaves []int, before []api.Node, most int) api.Node {
	for {
		n := api.Node{Op: d.roll(api.OpCount), Width: 1 + d.roll(most)}
		switch n.Op {
		case api.OpConst:
			n.Value = d.roll(power(n.Width))
		case api.OpLeaf:
			if len(leaves) == 0 {
				continue
			}
			n.Value = d.roll(len(leaves))
			n.Width = leaves[n.Value]
		case api.OpSlice:
			n.Value = d.roll(most)
		}
		args := 2
		switch n.Op {
		case api.OpConst, api.OpLeaf:
			args = 0
		case api.OpNot, api.OpSlice, api.OpExtend, api.OpExtendSigned:
			args = 1
		case api.OpMux:
			args = 3
		}
		for range args {
			if len(before) > 0 {
				n.Args = append(n.Args, d.roll(len(before)))
			}
		}
		// What does not fit is thrown again.
		if _, e := graph.CheckNodes(leaves, append(slices.Clone(before), n)); e == api.OK {
			return n
		}
	}
}

// nodes is leaf nodes for all leaves, and as many other nodes.
func (d *dice) nodes(leaves []int, count, most int) []api.Node {
	var nodes []api.Node
	for leaf, width := range leaves {
		nodes = append(nodes, api.Node{Op: api.OpLeaf, Width: width, Value: leaf})
	}
	for range count {
		nodes = append(nodes, d.node(leaves, nodes, most))
	}
	return nodes
}

// nodeValues is the values of all nodes.
func nodeValues(t *testing.T, leaves []int, nodes []api.Node, values []int) []int {
	t.Helper()
	l, e := graph.ValuesOf(leaves, nodes, values)
	if e != api.OK {
		t.Fatalf("%s: %d", graph.FormatNodes(nodes), e)
	}
	return l
}
