package gates_test

import (
	"fmt"
	"math"
	"slices"
	"testing"

	"ratchet/api"
	"ratchet/gates"
)

// isPart says whether all of some points are among others.
func isPart(part, of []int) bool {
	return !slices.ContainsFunc(part, func(point int) bool { return !slices.Contains(of, point) })
}

// cutsByHand is the cuts of all points: the chapter's definition.
func cutsByHand(g api.GateGraph, most int) [][][]int {
	cuts := [][][]int{nil}
	for leaf := 1; leaf <= g.Leaves; leaf++ {
		cuts = append(cuts, [][]int{{leaf}})
	}
	for _, gate := range g.Gates {
		var unions [][]int
		for _, a := range cuts[gate[0]/2] {
			for _, b := range cuts[gate[1]/2] {
				var union []int
				for point := range cuts {
					if slices.Contains(a, point) || slices.Contains(b, point) {
						union = append(union, point)
					}
				}
				if len(union) <= most {
					unions = append(unions, union)
				}
			}
		}
		kept := [][]int{{len(cuts)}}
		for i, union := range unions {
			leftOut := false
			for j, other := range unions {
				leftOut = leftOut || isPart(other, union) && (len(other) < len(union) || j < i)
			}
			if !leftOut {
				kept = append(kept, union)
			}
		}
		slices.SortFunc(kept, slices.Compare[[]int])
		cuts = append(cuts, kept)
	}
	return cuts
}

// isMet says whether each way down from a point meets a cut.
func isMet(g api.GateGraph, point int, cut []int) bool {
	if slices.Contains(cut, point) {
		return true
	}
	if point <= g.Leaves {
		return false
	}
	gate := g.Gates[point-g.Leaves-1]
	return isMet(g, gate[0]/2, cut) && isMet(g, gate[1]/2, cut)
}

// tableByHand is the table of a point over a cut that meets each way down.
func tableByHand(g api.GateGraph, point int, cut []int) int {
	table := 0
	for k := range power(len(cut)) {
		var valueOf func(literal int) int
		valueOf = func(literal int) int {
			value := 0
			if i := slices.Index(cut, literal/2); i >= 0 {
				value = bitAt(k, i)
			} else if gate := g.Gates[literal/2-g.Leaves-1]; valueOf(gate[0]) == 1 && valueOf(gate[1]) == 1 {
				value = 1
			}
			return value ^ literal%2
		}
		table += valueOf(2*point) * power(k)
	}
	return table
}

// checkCuts checks all cuts of all points of a graph; it is how many there are.
func checkCuts(t *testing.T, g api.GateGraph, most int) int {
	t.Helper()
	count := 0
	for point, want := range cutsByHand(g, most) {
		if point == 0 {
			continue
		}
		cuts, e := gates.CutsOf(g, point, most)
		if !slices.EqualFunc(cuts, want, slices.Equal[[]int]) || e != api.OK {
			t.Fatalf("%v, %d, %d: %v, %d, not %v", g, point, most, cuts, e, want)
		}
		count += len(cuts)
		for i, cut := range cuts {
			for j, other := range cuts {
				if i != j && isPart(cut, other) {
					t.Fatalf("%v, %d, %d: %v in %v", g, point, most, cut, other)
				}
			}
			if !isMet(g, point, cut) || len(cut) > most {
				t.Fatalf("%v, %d, %d: %v", g, point, most, cut)
			}
		}
	}
	return count
}

// P4.6, P4.12: the cuts are those of the definition, meet each way down, and contain no others.
func TestCutsOf(t *testing.T) {
	counts := [api.MaxGateCut + 1]int{}
	eachGraph(func(d *dice, g api.GateGraph) {
		for most := 1; most <= api.MaxGateCut; most++ {
			if isPlain(g) {
				counts[most] += checkCuts(t, g, most)
			} else if cuts, e := gates.CutsOf(g, 1+g.Leaves, most); len(cuts) > 0 || e != api.ErrForm {
				t.Fatalf("%v, %d: %v, %d", g, most, cuts, e)
			}
		}
	})
	if counts[1] < 1000 || counts[2] < counts[1]+500 || counts[3] < counts[2]+500 || counts[4] < counts[3]+500 {
		t.Error(counts)
	}
	d := &dice{state: 14}
	for range 30 {
		checkCuts(t, d.graph(2+d.roll(6), 40, 0, true), 1+d.roll(4))
	}
}

// P4.6: example 2, leaf bits, and what is left out.
func TestCutsExamples(t *testing.T) {
	cases := []struct {
		s           string
		point, most int
		want        string
	}{
		{"3;2 4,3 5,9 11;12", 6, 2, "[[1 2] [4 5] [6]]"},
		{"3;2 4,3 5,9 11;12", 6, 4, "[[1 2] [4 5] [6]]"},
		{"3;2 4,3 5,9 11;12", 6, 1, "[[6]]"},
		{"3;2 4,3 5,9 11;12", 5, 4, "[[1 2] [5]]"},
		{"3;2 4,3 5,9 11;12", 3, 4, "[[3]]"},
		{"640;;", 640, 1, "[[640]]"},
		{"4;2 4,6 8,10 12;", 7, 4, "[[1 2 3 4] [1 2 6] [3 4 5] [5 6] [7]]"},
		{"4;2 4,6 8,10 12;", 7, 3, "[[1 2 6] [3 4 5] [5 6] [7]]"},
		{"4;2 4,6 8,10 12;", 7, 2, "[[5 6] [7]]"},
		// Over five leaf bits a union has too many points.
		{"5;2 4,6 8,12 14,10 16;", 9, 4, "[[1 2 5 7] [3 4 5 6] [5 6 7] [5 8] [9]]"},
		// 1 2 4 contains 1 2.
		{"3;2 4,2 8;", 5, 4, "[[1 2] [1 4] [5]]"},
		// The greater point stands first in a gate.
		{"3;6 5,9 3;", 5, 4, "[[1 2 3] [1 4] [5]]"},
	}
	for _, c := range cases {
		cuts, e := gates.CutsOf(read(c.s), c.point, c.most)
		if s := fmt.Sprint(cuts); s != c.want || e != api.OK {
			t.Errorf("%s, %d, %d: %s, %d, not %s", c.s, c.point, c.most, s, e, c.want)
		}
	}
}

// P4.6: what has no cuts.
func TestCutsErrors(t *testing.T) {
	cases := []struct {
		name        string
		g           api.GateGraph
		point, most int
		want        api.Errno
	}{
		{"the last point", example(), 6, 4, api.OK},
		{"the constant", example(), 0, 5, api.ErrMissing},
		{"no point", example(), 7, 0, api.ErrMissing},
		{"a negative point", example(), -1, 2, api.ErrMissing},
		{"the greatest point", example(), math.MaxInt, 2, api.ErrMissing},
		{"no points", example(), 6, 0, api.ErrRange},
		{"negative points", example(), 6, -1, api.ErrRange},
		{"too many points", example(), 6, 5, api.ErrRange},
		{"too many points before the form", read("1;2 2;"), 1, 5, api.ErrRange},
		{"a constant literal", read("2;2 4,1 4;"), 3, 2, api.ErrForm},
		{"the same point twice", read("2;2 4,5 4;"), 1, 2, api.ErrForm},
		{"the most gates", api.GateGraph{Leaves: 2, Gates: many(40, [2]int{2, 4})}, 42, 4, api.OK},
		{"too many gates", api.GateGraph{Leaves: 2, Gates: many(41, [2]int{2, 4})}, 1, 4, api.ErrLarge},
		{"the form before too many gates", api.GateGraph{Leaves: 2, Gates: many(41, [2]int{2, 2})}, 1, 4, api.ErrForm},
	}
	for _, c := range cases {
		if l, e := gates.CutsOf(c.g, c.point, c.most); e != c.want || e != api.OK && len(l) > 0 {
			t.Errorf("%s: %v, %d, not %d", c.name, l, e, c.want)
		}
	}
}

// P4.6: graphs with very many cuts do not take long.
func TestCutsMany(t *testing.T) {
	// Three rows of gates that all use the leaf bit 1: a cut has it, and a gate of each row.
	g := api.GateGraph{Leaves: 4}
	add := func(a, b int) int {
		g.Gates = append(g.Gates, [2]int{a, b})
		return 2 * (g.Leaves + len(g.Gates))
	}
	var ends [3]int
	for row := range ends {
		ends[row] = 4 + 2*row
		for i := range 10 {
			ends[row] = add(2, ends[row]^i%2)
		}
	}
	a := add(ends[0], ends[1])
	b := add(a, ends[2])
	for len(g.Gates) < api.MaxGateShort {
		a, b = b, add(a, b)
	}
	cuts, e := gates.CutsOf(g, 44, 4)
	if len(cuts) < 11*11*11 || e != api.OK {
		t.Error(len(cuts), e)
	}
}

// P4.6, P4.12: over a cut the table, at the values of the points of the cut, is the value of the point.
func TestTableOf(t *testing.T) {
	found, open := 0, 0
	eachGraph(func(d *dice, g api.GateGraph) {
		points := g.Leaves + len(g.Gates)
		if points == 0 {
			return
		}
		for range 40 {
			point := 1 + d.roll(points)
			var cut []int
			for p := 1; p <= points; p++ {
				if len(cut) < api.MaxGateCut && d.roll(points) < 4 {
					cut = append(cut, p)
				}
			}
			table, e := gates.TableOf(g, point, cut)
			if !isMet(g, point, cut) {
				open++
				if table != 0 || e != api.ErrOpen {
					t.Fatalf("%v, %d, %v: %d, %d", g, point, cut, table, e)
				}
				continue
			}
			found++
			if want := tableByHand(g, point, cut); table != want || e != api.OK {
				t.Fatalf("%v, %d, %v: %b, %d, not %b", g, point, cut, table, e, want)
			}
			eachSetting(g.Leaves, func(leaves []int) {
				values := pointValues(g, leaves)
				k := 0
				for i, p := range cut {
					k += values[p] * power(i)
				}
				if bitAt(table, k) != values[point] {
					t.Fatalf("%v, %d, %v: %b at %v", g, point, cut, table, leaves)
				}
			})
		}
	})
	if found < 1000 || open < 1000 {
		t.Error(found, open)
	}
}

// P4.6: example 2, ways that miss the cut, and points beside it.
func TestTableExamples(t *testing.T) {
	row := api.GateGraph{Leaves: 2, Gates: [][2]int{{2, 4}}}
	for point := 3; point < 200002; point++ {
		row.Gates = append(row.Gates, [2]int{2 * point, 2 * point})
	}
	cases := []struct {
		name  string
		g     api.GateGraph
		point int
		cut   []int
		table int
		want  api.Errno
	}{
		{"the leaf bits", example(), 6, list(1, 2), 6, api.OK},
		{"the gates", example(), 6, list(4, 5), 1, api.OK},
		{"the point itself", example(), 6, list(6), 2, api.OK},
		{"a leaf bit", example(), 3, list(3), 2, api.OK},
		{"a point beside it", example(), 6, list(1, 2, 3), 0b01100110, api.OK},
		{"a point below the cut", example(), 6, list(1, 4, 5), 0b00000011, api.OK},
		{"a point above it", example(), 4, list(1, 2, 6), 0b10001000, api.OK},
		{"points of the cut below one another", example(), 6, list(1, 2, 4, 5), 0b0000000000001111, api.OK},
		{"the first of two", example(), 1, list(1, 6), 0b1010, api.OK},
		{"the last of four", example(), 6, list(1, 2, 3, 6), 0b1111111100000000, api.OK},
		{"a leaf bit is missed", example(), 6, list(1, 4), 0, api.ErrOpen},
		{"no points", example(), 6, nil, 0, api.ErrOpen},
		{"no points for a leaf bit", example(), 1, nil, 0, api.ErrOpen},
		{"a point above alone", example(), 4, list(6), 0, api.ErrOpen},
		{"the constant 0 is missed", read("2;2 4,0 2;"), 4, list(1, 2), 0, api.ErrOpen},
		{"the constant 1 is missed", read("2;2 4,6 1,8 2;"), 5, list(1, 2, 3), 0, api.ErrOpen},
		{"the constant is below the cut", read("2;2 4,6 1,8 2;"), 5, list(1, 4), 8, api.OK},
		{"the constant is beside it", read("2;2 4,0 1;"), 3, list(1, 2), 8, api.OK},
		{"the same point twice", read("1;2 2,3 3,2 3;"), 2, list(1), 2, api.OK},
		{"the opposite twice", read("1;2 2,3 3,2 3;"), 3, list(1), 1, api.OK},
		{"both", read("1;2 2,3 3,2 3;"), 4, list(1), 0, api.OK},
		{"the longest way", row, 200002, list(1, 2), 8, api.OK},
		{"the longest way is missed", row, 200002, list(2), 0, api.ErrOpen},
	}
	for _, c := range cases {
		if n, e := gates.TableOf(c.g, c.point, c.cut); n != c.table || e != c.want {
			t.Errorf("%s: %b, %d, not %b, %d", c.name, n, e, c.table, c.want)
		}
	}
}

// P4.6: cuts that are none.
func TestTableErrors(t *testing.T) {
	cases := []struct {
		point int
		cut   []int
		want  api.Errno
	}{
		{0, list(1, 2, 3, 4, 5), api.ErrMissing},
		{7, list(1, 2, 3, 4, 5), api.ErrMissing},
		{-1, list(1), api.ErrMissing},
		{math.MinInt, list(1), api.ErrMissing},
		{6, list(1, 2, 3, 4), api.OK},
		{6, list(1, 2, 3, 4, 5), api.ErrLarge},
		{6, list(0, 9, 9, 9, 9), api.ErrLarge},
		{6, list(0, 1), api.ErrMissing},
		{6, list(1, 7), api.ErrMissing},
		{6, list(-1), api.ErrMissing},
		{6, list(1, math.MaxInt), api.ErrMissing},
		{6, list(2, 1), api.ErrOrder},
		{6, list(1, 2, 2), api.ErrOrder},
		{6, list(2, 1, 7), api.ErrOrder},
		{6, list(2, 7, 1), api.ErrMissing},
		{6, list(2, 0), api.ErrMissing},
		{6, list(3, 3), api.ErrOrder},
		{6, list(3), api.ErrOpen},
	}
	for _, c := range cases {
		if n, e := gates.TableOf(example(), c.point, c.cut); e != c.want || e != api.OK && n != 0 {
			t.Errorf("%d, %v: %d, %d, not %d", c.point, c.cut, n, e, c.want)
		}
	}
}
