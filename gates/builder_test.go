package gates_test

import (
	"slices"
	"testing"

	"ratchet/api"
	"ratchet/gates"
)

// cleanedByHand is the cleaned graph: the chapter's definition, step by step.
func cleanedByHand(g api.GateGraph) api.GateGraph {
	var stands []int
	for point := range 1 + g.Leaves {
		stands = append(stands, 2*point)
	}
	by := func(stands []int, literal int) int { return stands[literal/2] ^ literal%2 }
	stays := map[int][2]int{} // by points of g
	for i, gate := range g.Gates {
		point := 1 + g.Leaves + i
		a, b := by(stands, gate[0]), by(stands, gate[1])
		low, high := min(a, b), max(a, b)
		switch {
		case low == 0 || low^high == 1:
			stands = append(stands, 0)
			continue
		case low == 1 || low == high:
			stands = append(stands, high)
			continue
		}
		stands = append(stands, 2*point)
		for earlier := range point {
			if stays[earlier] == [2]int{low, high} {
				stands[point] = 2 * earlier
			}
		}
		if stands[point] == 2*point {
			stays[point] = [2]int{low, high}
		}
	}
	var outputs []int
	needed := map[int]bool{}
	for _, output := range g.Outputs {
		outputs = append(outputs, by(stands, output))
		needed[by(stands, output)/2] = true
	}
	for point := len(stands) - 1; point > g.Leaves; point-- {
		if needed[point] {
			needed[stays[point][0]/2], needed[stays[point][1]/2] = true, true
		}
	}
	numbers := slices.Clone(stands)
	clean := api.GateGraph{Leaves: g.Leaves}
	for point := 1 + g.Leaves; point < len(stands); point++ {
		gate, stayed := stays[point]
		if !stayed || !needed[point] {
			continue
		}
		clean.Gates = append(clean.Gates, [2]int{by(numbers, gate[0]), by(numbers, gate[1])})
		numbers[point] = 2 * (clean.Leaves + len(clean.Gates))
	}
	for _, output := range outputs {
		clean.Outputs = append(clean.Outputs, by(numbers, output))
	}
	return clean
}

// checkCleaned checks the cleaned graph, and that it is as small as it is claimed to be.
func checkCleaned(t *testing.T, g api.GateGraph) api.GateGraph {
	t.Helper()
	clean, e := gates.Cleaned(g)
	if want := cleanedByHand(g); !same(clean, want) || e != api.OK {
		t.Fatalf("%v: %v, %d, not %v", g, clean, e, want)
	}
	if _, e := gates.CheckGates(clean); e != api.OK {
		t.Fatalf("%v: %v: %d", g, clean, e)
	}
	if len(clean.Gates) > len(g.Gates) || deepest(clean) > deepest(g) || !isPlain(clean) {
		t.Fatalf("%v: %v", g, clean)
	}
	if again, e := gates.Cleaned(clean); !same(again, clean) || e != api.OK {
		t.Fatalf("%v: %v, %d, not %v", clean, again, e, clean)
	}
	return clean
}

// P4.3, P4.9: a cleaned graph has the same outputs, no more gates, no greater depth, and is cleaned.
func TestCleaned(t *testing.T) {
	shorter, lower := 0, 0
	eachGraph(func(d *dice, g api.GateGraph) {
		clean := checkCleaned(t, g)
		eachSetting(g.Leaves, func(leaves []int) {
			if a, b := outputValues(g, leaves), outputValues(clean, leaves); !slices.Equal(a, b) {
				t.Fatalf("%v, %v: %v, not %v", g, leaves, b, a)
			}
		})
		if len(clean.Gates) < len(g.Gates) {
			shorter++
		}
		if deepest(clean) < deepest(g) {
			lower++
		}
	})
	if shorter < 100 || lower < 50 {
		t.Error(shorter, lower)
	}
	d := &dice{state: 6}
	for range 20 {
		checkCleaned(t, d.graph(d.roll(641), d.roll(300), d.roll(65), d.roll(2) == 0))
	}
}

// P4.3: example 4, and each case of the definition.
func TestCleanedExamples(t *testing.T) {
	cases := []struct{ name, s, want string }{
		{"example 4", "2;2 4,4 2,7 1,9 8;10", "2;2 4;7"},
		{"the example", "3;2 4,3 5,9 11;12", "3;2 4,3 5,9 11;12"},
		{"nothing", "0;;", "0;;"},
		{"no outputs", "3;2 4,6 8;", "3;;"},
		{"outputs alone", "2;;0 1 2 3 5", "2;;0 1 2 3 5"},
		{"the literal 0", "2;0 2,5 0;6 7 8 9", "2;;0 1 0 1"},
		{"the literal 0 and 1", "0;0 1,1 0,1 1;2 4 6", "0;;0 0 1"},
		{"a literal and its opposite", "2;2 3,5 4;6 9", "2;;0 1"},
		{"the literal 1", "2;1 3,4 1;6 7 8", "2;;3 2 4"},
		{"the same literal twice", "2;3 3,4 4;6 7 8", "2;;3 2 4"},
		{"the greater literal first", "2;4 2;6", "2;2 4;6"},
		{"an inverted literal first", "2;5 2;6", "2;2 5;6"},
		{"a gate again", "2;2 4,4 2,2 4;6 8 11", "2;2 4;6 6 7"},
		{"no gate again", "2;2 4,3 4,2 5,3 5;6 8 10 12", "2;2 4,3 4,2 5,3 5;6 8 10 12"},
		{"again after others are replaced", "3;2 4,1 6,8 6,10 8;15", "3;2 4,6 8;11"},
		{"0 by what was replaced", "2;2 3,6 4,9 2;8 10", "2;;0 2"},
		{"opposites by what was replaced", "2;2 4,7 1,6 9,8 6;10 12", "2;2 4;6 0"},
		{"needless gates before and between", "2;3 5,2 4,3 4,8 5;12", "2;2 4,5 6;8"},
		{"needed by a gate that is not", "2;2 4,5 6,7 8;6", "2;2 4;6"},
		{"the order of outputs", "2;2 4,3 5;8 6 9 8 2", "2;2 4,3 5;8 6 9 8 2"},
	}
	for _, c := range cases {
		if g, e := gates.Cleaned(read(c.s)); !same(g, read(c.want)) || e != api.OK {
			t.Errorf("%s: %s: %v, %d, not %s", c.name, c.s, g, e, c.want)
		}
	}
}

// P4.3: graphs at the limits.
func TestCleanedLarge(t *testing.T) {
	g := api.GateGraph{Leaves: 640, Gates: many(200000, [2]int{1280, 3}), Outputs: many(64, 2*(640+200000))}
	want := api.GateGraph{Leaves: 640, Gates: [][2]int{{3, 1280}}, Outputs: many(64, 2*641)}
	if clean, e := gates.Cleaned(g); !same(clean, want) || e != api.OK {
		t.Error(clean, e)
	}
}
