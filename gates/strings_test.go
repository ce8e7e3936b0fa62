package gates_test

import (
	"fmt"
	"math"
	"strings"
	"testing"

	"ratchet/api"
	"ratchet/gates"
)

// formatByHand is the string of a graph.
func formatByHand(g api.GateGraph) string {
	var parts []string
	for _, gate := range g.Gates {
		parts = append(parts, fmt.Sprintf("%d %d", gate[0], gate[1]))
	}
	return fmt.Sprintf("%d;%s;%s", g.Leaves, strings.Join(parts, ","), strings.Trim(fmt.Sprint(g.Outputs), "[]"))
}

// P4.7, P4.13: there and back.
func TestFormatAndParse(t *testing.T) {
	check := func(g api.GateGraph) {
		s := gates.FormatGates(g)
		if want := formatByHand(g); s != want {
			t.Fatalf("%v: %q, not %q", g, s, want)
		}
		if h, e := gates.ParseGates(s); !same(h, g) || e != api.OK {
			t.Fatalf("%q: %v, %d, not %v", s, h, e, g)
		}
	}
	eachGraph(func(d *dice, g api.GateGraph) { check(g) })
	d := &dice{state: 13}
	check(d.graph(640, 4000, 64, true))
	check(d.graph(0, 5000, 64, false))
}

// P4.7: each graph has a string, valid or not.
func TestFormatExamples(t *testing.T) {
	cases := []struct {
		g    api.GateGraph
		want string
	}{
		{example(), "3;2 4,3 5,9 11;12"},
		{api.GateGraph{}, "0;;"},
		{api.GateGraph{Leaves: 5, Outputs: list(2, 4)}, "5;;2 4"},
		{api.GateGraph{Leaves: 5, Gates: [][2]int{{2, 4}}}, "5;2 4;"},
		{api.GateGraph{Leaves: -5, Gates: [][2]int{{-2, 4}, {99, 0}}, Outputs: list(-1, 7777777)}, "-5;-2 4,99 0;-1 7777777"},
		{api.GateGraph{Leaves: math.MinInt, Gates: [][2]int{{math.MaxInt, 0}}}, "-9223372036854775808;9223372036854775807 0;"},
	}
	for _, c := range cases {
		if s := gates.FormatGates(c.g); s != c.want {
			t.Errorf("%v: %q, not %q", c.g, s, c.want)
		}
	}
}

// P4.7: strings that are malformed, whatever is wrong in their graphs.
func TestParseSyntax(t *testing.T) {
	malformed := []string{
		"", " ", ";", ";;", ";;;", "2", "2;", "2;2 4", "2;2 4;6;", ";2 4;6", "2;;;", "2;2 4;;6", "2;2 4;6;6",
		" 2;2 4;6", "2 ;2 4;6", "2; 2 4;6", "2;2  4;6", "2;2 4 ;6", "2;2 4; 6", "2;2 4;6 ", "2;2 4;6  6", "2;2 4;6\n", "2;2\t4;6", "2; ;6", "2;2 4; ",
		"2;2;6", "2;2 4 6;6", "2;2 4,;6", "2;,2 4;6", "2;,;6", "2;2 4,,2 4;6", "2;2 4, 2 4;6", "2;2,4;6", "2;2 4;6,6", "2;2 4 2 4;6", "2,2 4;6", "2;2 4,6",
		"-2;;", "+2;;", "-0;;", "2;-2 4;6", "2;2 +4;6", "2;2 4;-6", "2;2 4;+6", "2;2 -;6", "2;2 4;-",
		"02;;", "00;;", "2;02 4;6", "2;2 00;6", "2;2 4;06", "2;2 4;00", "x;;", "2;x 4;6", "2;2 4;x", "2;2 4x;6", "0x2;;", "2;2 0x4;6", "1e1;;", "2.0;;", "1_0;;",
		"1000000;;", "2;2 1000000;6", "2;2 4;1000000", "2;0000002 4;6", "99999999999999999999;;", "2;2 99999999999999999999;",
		"641;2 4;x", "2;9 9,x;6", "-1;9 9;", "2;2 4;99 x", "2;2 \xd9\xa4;6", "\xef\xbc\x92;;", "2;;\x00", "2;2 4:6;", "2 2 4 6",
	}
	for _, s := range malformed {
		if g, e := gates.ParseGates(s); !isZero(g) || e != api.ErrSyntax {
			t.Errorf("%q: %v, %d", s, g, e)
		}
	}
}

// P4.7: strings that are well formed, whatever is wrong in their graphs, and strings that are too long.
func TestParseErrors(t *testing.T) {
	long := "0;" + strings.Repeat("0 0,", 14990) + "0 0;"
	zeros := strings.Repeat(" 0", 16) // up to the last byte that is permitted, if two digits are before them
	cases := []struct {
		s    string
		want api.Errno
	}{
		{"0;;", api.OK},
		{"0;;0 1", api.OK},
		{"640;;1281", api.OK},
		{"2;2 4;", api.OK},
		{"2;0 1;6 7 0", api.OK},
		{"641;;", api.ErrRange},
		{"999999;9 9;", api.ErrRange},
		{"2;6 2;6", api.ErrMissing},
		{"2;2 999999;6", api.ErrMissing},
		{"2;2 4;8", api.ErrMissing},
		{"2;;999999", api.ErrMissing},
		{"2;;0" + strings.Repeat(" 0", 63), api.OK},
		{"2;;0" + strings.Repeat(" 0", 64), api.ErrLarge},
		{long + "10" + zeros, api.OK},
		{long + "100" + zeros, api.ErrLarge},
		{long + "01" + zeros, api.ErrSyntax},
		{strings.Repeat("x", 60000), api.ErrSyntax},
		{strings.Repeat("x", 60001), api.ErrLarge},
		{strings.Repeat(";", 60001), api.ErrLarge},
	}
	for i, c := range cases {
		if g, e := gates.ParseGates(c.s); e != c.want || e != api.OK && !isZero(g) {
			t.Errorf("case %d, %d bytes: %v, %d, not %d", i, len(c.s), g.Outputs, e, c.want)
		}
	}
	if len(long+"10"+zeros) != api.MaxString {
		t.Error(len(long))
	}
}
