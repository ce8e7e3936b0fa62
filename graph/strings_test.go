package graph_test

import (
	"fmt"
	"math"
	"strings"
	"testing"

	"ratchet/api"
	"ratchet/graph"
)

// names are those of all operations.
var names = [api.OpCount]string{"const", "leaf", "not", "and", "or", "xor", "add", "sub", "mul", "eq", "lt", "slt", "mux", "join", "slice", "zext", "sext", "shl", "shr"}

// exampleString is example 7.
const exampleString = "leaf 4 0;const 4 3;add 4 0 1;leaf 1 1;mux 4 3 2 0;lt 1 4 1"

// formatByHand is the string of valid nodes.
func formatByHand(nodes []api.Node) string {
	var l []string
	for _, n := range nodes {
		s := fmt.Sprint(names[n.Op], " ", n.Width)
		for _, arg := range n.Args {
			s += fmt.Sprint(" ", arg)
		}
		if n.Op == api.OpConst || n.Op == api.OpLeaf || n.Op == api.OpSlice {
			s += fmt.Sprint(" ", n.Value)
		}
		l = append(l, s)
	}
	return strings.Join(l, ";")
}

// P2.6, P2.11: there and back.
func TestFormatAndParse(t *testing.T) {
	eachGraph(func(d *dice, leaves []int, nodes []api.Node, values []int) {
		want := formatByHand(nodes)
		s := graph.FormatNodes(nodes)
		if s != want {
			t.Errorf("%v: %q, not %q", nodes, s, want)
		}
		if l, e := graph.ParseNodes(leaves, s); e != api.OK || !sameNodes(l, nodes) {
			t.Errorf("%q: %v, %d, not %v", s, l, e, nodes)
		}
	})
	// The greatest graph, with the greatest numbers.
	big := list(con(16, 65535), con(1, 1), leaf(16, 39))
	for len(big) < api.MaxNodes {
		big = append(big, op(api.OpMux, 16, 1, len(big)-1, 0))
	}
	if l, e := graph.ParseNodes(many(40, 16), graph.FormatNodes(big)); e != api.OK || !sameNodes(l, big) {
		t.Error(len(l), e)
	}
}

// P2.6: example 7, and nodes that are not valid.
func TestFormatExamples(t *testing.T) {
	cases := []struct {
		nodes []api.Node
		want  string
	}{
		{nil, ""},
		{exampleNodes(), exampleString},
		{list(slice(3, 2, 0), con(1, 0)), "slice 3 0 2;const 1 0"},
		{list(api.Node{Op: api.OpCount, Width: 4, Args: []int{1, 2}, Value: 3}), "? 4 1 2"},
		{list(api.Node{Op: -1, Width: -4, Value: 3}), "? -4"},
		{list(api.Node{Op: math.MaxInt, Width: 99, Args: []int{-1, 99, 0, 5}}, con(4, 3)), "? 99 -1 99 0 5;const 4 3"},
		{list(api.Node{}), "const 0 0"},
		{list(api.Node{Op: api.OpConst, Width: 4, Args: []int{7}, Value: -3}), "const 4 7 -3"},
		{list(api.Node{Op: api.OpAdd, Width: 4, Value: 9}), "add 4"},
		{list(api.Node{Op: api.OpNot, Width: math.MinInt, Args: []int{math.MaxInt}}), "not -9223372036854775808 9223372036854775807"},
		{list(api.Node{Op: api.OpSlice, Width: 17, Args: []int{1, 2}, Value: 100}), "slice 17 1 2 100"},
	}
	for _, c := range cases {
		if s := graph.FormatNodes(c.nodes); s != c.want {
			t.Errorf("%v: %q, not %q", c.nodes, s, c.want)
		}
	}
	for kind, name := range names {
		want := name + " 3"
		if kind == api.OpConst || kind == api.OpLeaf || kind == api.OpSlice {
			want += " 8"
		}
		if s := graph.FormatNodes(list(api.Node{Op: kind, Width: 3, Value: 8})); s != want {
			t.Errorf("the operation %d: %q, not %q", kind, s, want)
		}
	}
}

// P2.6: strings that are malformed, over leaves that are wrong, too.
func TestParseSyntax(t *testing.T) {
	malformed := []string{
		" ", ";", ";;", " leaf 4 0", "leaf 4 0 ", "leaf  4 0", "leaf 4  0", "leaf\t4 0", "leaf 4 0\n",
		"leaf 4 0;", ";leaf 4 0", "leaf 4 0;;const 4 3", "leaf 4 0; const 4 3", "leaf 4 0 ;const 4 3", "leaf 4 0,const 4 3",
		"leaf", "leaf ", "leaf 4", "leaf 4 ", "leaf 4 0 0", "const 4 3 3", "const", "const 4", "not 4", "not 4 0 0", "not", "4 0",
		"add 4 0", "add 4 0 0 0", "mux 4 0 0", "mux 4 0 0 0 0", "slice 4 0", "slice 4 0 0 0", "shl 4 0", "zext 4 0 0",
		"? 4", "? 4 0", "nand 4 0 0", "Leaf 4 0", "LEAF 4 0", "leaf4 0", "le af 4 0", "leafs 4 0", "lea 4 0",
		"leaf +4 0", "leaf 4 +0", "leaf -4 0", "leaf 4 -0", "leaf 4 -1", "const 4 -1", "leaf 4 00", "leaf 04 0", "const 4 03",
		"const 4 123456", "const 4 000000", "leaf 100000 0", "const 4 99999999999999999999999999", "const 4 0x3", "const 4 a", "const 4 3a", "const 4 1_0", "const 4 1e1", "const 4 3.0",
		"const 4 \xd9\xa3", "c\xc3\xb6nst 4 3", "const 4 \x00", "\x00",
		"leaf 4 0;const 4 16;add 4 0", // the string comes before the nodes
	}
	for _, s := range malformed {
		for _, leaves := range [][]int{{4, 1}, {0}} {
			if l, e := graph.ParseNodes(leaves, s); len(l) != 0 || e != api.ErrSyntax {
				t.Errorf("%q: %v, %d", s, l, e)
			}
		}
	}
}

// P2.6: strings that are well formed, whatever is wrong in their nodes.
func TestParseExamples(t *testing.T) {
	cases := []struct {
		s    string
		want api.Errno
	}{
		{"", api.OK},
		{exampleString, api.OK},
		{"leaf 4 0;slice 2 0 2", api.OK},
		{"leaf 4 1", api.ErrWidth},
		{"leaf 4 2", api.ErrMissing},
		{"leaf 0 0", api.ErrRange},
		{"leaf 99999 0", api.ErrRange},
		{"const 4 16", api.ErrRange},
		{"const 16 99999", api.ErrRange},
		{"not 4 0", api.ErrOrder},
		{"leaf 4 0;add 4 0 99999", api.ErrOrder},
		{"leaf 4 0;slice 2 0 16", api.ErrRange},
		{"leaf 4 0;slice 2 0 3", api.ErrWidth},
		{"const 17 0;leaf 4 1", api.ErrRange},
		{strings.Repeat("const 1 1;", 399) + "const 1 1", api.OK},
		{strings.Repeat("const 1 1;", 400) + "const 1 1", api.ErrLarge},
		{strings.Repeat("const 1 2;", 400) + "const 1 2", api.ErrLarge},
	}
	for _, c := range cases {
		l, e := graph.ParseNodes(exampleLeaves(), c.s)
		if e != c.want || e != api.OK && len(l) != 0 || e == api.OK && formatByHand(l) != c.s {
			t.Errorf("%.60q: %v, %d, not %d", c.s, l, e, c.want)
		}
	}
	if l, e := graph.ParseNodes(exampleLeaves(), exampleString); e != api.OK || !sameNodes(l, exampleNodes()) {
		t.Error(l, e)
	}
	// The errors of leaves, also without nodes, but after those of the string.
	if l, e := graph.ParseNodes([]int{17}, ""); len(l) != 0 || e != api.ErrRange {
		t.Error(l, e)
	}
	if l, e := graph.ParseNodes(many(41, 1), "const 1 1"); len(l) != 0 || e != api.ErrLarge {
		t.Error(l, e)
	}
}

// P2.6: the number of bytes comes before all.
func TestParseLarge(t *testing.T) {
	for _, piece := range []string{"x", " ", ";", "0", "leaf 4 0;", "leaf 4 ", "\xff"} {
		long := strings.Repeat(piece, api.MaxString+1)
		if l, e := graph.ParseNodes([]int{0}, long[:api.MaxString]); len(l) != 0 || e != api.ErrSyntax {
			t.Errorf("%q: %v, %d", piece, l, e)
		}
		if l, e := graph.ParseNodes([]int{0}, long[:api.MaxString+1]); len(l) != 0 || e != api.ErrLarge {
			t.Errorf("%q: %v, %d", piece, l, e)
		}
	}
}

// P2.6: any short string is malformed, or the string of its nodes.
func TestParseAny(t *testing.T) {
	letters := "leaf 0;4c-?1"
	d := &dice{state: 9}
	parsed := 0
	for range 200000 {
		var s strings.Builder
		for range d.roll(10) {
			s.WriteByte(letters[d.roll(len(letters))])
		}
		text := s.String()
		if d.roll(2) == 0 {
			text = "leaf 4 0" + text
		}
		l, e := graph.ParseNodes(exampleLeaves(), text)
		if e == api.OK && formatByHand(l) != text || e != api.OK && len(l) != 0 {
			t.Errorf("%q: %v, %d", text, l, e)
		}
		parsed += truth(e == api.OK)
	}
	if parsed < 1000 {
		t.Errorf("only %d strings are parsed", parsed)
	}
}
