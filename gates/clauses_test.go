package gates_test

import (
	"math"
	"slices"
	"testing"

	"ratchet/api"
	"ratchet/cnf"
	"ratchet/gates"
)

// clausesByHand is the clauses of a literal: the chapter's definition.
func clausesByHand(g api.GateGraph, literal int) api.CnfFormula {
	by := func(literal int) int {
		if literal%2 == 1 {
			return -(literal / 2)
		}
		return literal / 2
	}
	f := api.CnfFormula{Vars: g.Leaves + len(g.Gates)}
	for i, gate := range g.Gates {
		v := g.Leaves + 1 + i
		f.Clauses = append(f.Clauses, list(-v, by(gate[0])), list(-v, by(gate[1])), list(v, -by(gate[0]), -by(gate[1])))
	}
	if literal == 0 {
		f.Clauses = append(f.Clauses, nil)
	}
	if literal > 1 {
		f.Clauses = append(f.Clauses, list(by(literal)))
	}
	for _, clause := range f.Clauses {
		slices.SortFunc(clause, func(a, b int) int { return max(a, -a) - max(b, -b) })
	}
	return f
}

func sameFormula(a, b api.CnfFormula) bool {
	return a.Vars == b.Vars && slices.EqualFunc(a.Clauses, b.Clauses, slices.Equal[[]int])
}

// P4.4: the clauses, in their order, for each literal.
func TestClausesOf(t *testing.T) {
	plain := 0
	eachGraph(func(d *dice, g api.GateGraph) {
		for literal := range 2 * (1 + g.Leaves + len(g.Gates)) {
			f, e := gates.ClausesOf(g, literal)
			if !isPlain(g) {
				if !isZero(f) || e != api.ErrForm {
					t.Fatalf("%v, %d: %v, %d", g, literal, f, e)
				}
				continue
			}
			plain++
			if want := clausesByHand(g, literal); !sameFormula(f, want) || e != api.OK {
				t.Fatalf("%v, %d: %v, %d, not %v", g, literal, f, e, want)
			}
			if i, e := cnf.CheckFormula(f); e != api.OK {
				t.Fatalf("%v, %d: %v: %d, %d", g, literal, f, i, e)
			}
		}
	})
	if plain < 1000 {
		t.Error(plain)
	}
}

// P4.10: the models are exactly the values of all points for which the literal is 1.
func TestClausesModels(t *testing.T) {
	d := &dice{state: 10}
	none, some := 0, 0
	for range 300 {
		leaves := 2 + d.roll(4)
		g := d.graph(leaves, d.roll(9-leaves), 0, true)
		for literal := range 2 * (1 + g.Leaves + len(g.Gates)) {
			f, e := gates.ClausesOf(g, literal)
			if e != api.OK {
				t.Fatalf("%v, %d: %d", g, literal, e)
			}
			models := 0
			eachSetting(f.Vars, func(model []int) {
				values := pointValues(g, model[:leaves])
				want := slices.Equal(values[1:], model) && literalValue(values, literal) == 1
				if want {
					models++
				}
				if wrong, e := cnf.FalseIn(f, model); (len(wrong) == 0) != want || e != api.OK {
					t.Fatalf("%v, %d, %v: %v, %d, not %t", g, literal, model, wrong, e, want)
				}
			})
			if n, e := cnf.CountModels(f); n != models || e != api.OK {
				t.Fatalf("%v, %d: %d, %d, not %d", g, literal, n, e, models)
			}
			if literal == 0 && models != 0 || literal == 1 && models != power(leaves) {
				t.Fatalf("%v, %d: %d", g, literal, models)
			}
			if models == 0 {
				none++
			} else {
				some++
			}
		}
	}
	if none < 300 || some < 1000 {
		t.Error(none, some)
	}
}

// P4.4: example 3, and the constants.
func TestClausesExamples(t *testing.T) {
	cases := []struct {
		s       string
		literal int
		want    string
	}{
		{"3;2 4,3 5,9 11;12", 12, "6;1 -4 0;2 -4 0;-1 -2 4 0;-1 -5 0;-2 -5 0;1 2 5 0;-4 -6 0;-5 -6 0;4 5 6 0;6 0"},
		{"3;2 4,3 5,9 11;12", 13, "6;1 -4 0;2 -4 0;-1 -2 4 0;-1 -5 0;-2 -5 0;1 2 5 0;-4 -6 0;-5 -6 0;4 5 6 0;-6 0"},
		// The greater point first: its clause comes first, too, but each clause ascends.
		{"2;5 2;", 6, "3;-2 -3 0;1 -3 0;-1 2 3 0;3 0"},
		{"0;;", 0, "0;0"},
		{"0;;", 1, "0"},
		{"2;;", 0, "2;0"},
		{"2;;", 1, "2"},
		{"2;;", 4, "2;2 0"},
		{"2;;", 5, "2;-2 0"},
		{"2;2 4;", 1, "3;1 -3 0;2 -3 0;-1 -2 3 0"},
	}
	for _, c := range cases {
		f, e := gates.ClausesOf(read(c.s), c.literal)
		if s := cnf.FormatFormula(f); s != c.want || e != api.OK {
			t.Errorf("%s, %d: %s, %d, not %s", c.s, c.literal, s, e, c.want)
		}
	}
	f, _ := gates.ClausesOf(example(), 12)
	if n, e := cnf.CountModels(f); n != 4 || e != api.OK {
		t.Error(n, e)
	}
}

// P4.4: what has no clauses.
func TestClausesErrors(t *testing.T) {
	constant := api.GateGraph{Leaves: 500, Gates: append(many(500, [2]int{2, 4}), [2]int{2, 1})}
	cases := []struct {
		name    string
		g       api.GateGraph
		literal int
		want    api.Errno
	}{
		{"the last literal", example(), 13, api.OK},
		{"no literal", example(), 14, api.ErrMissing},
		{"a negative literal", example(), -1, api.ErrMissing},
		{"the least literal", example(), math.MinInt, api.ErrMissing},
		{"the greatest literal", example(), math.MaxInt, api.ErrMissing},
		{"no literal before the form", read("2;2 2;"), 8, api.ErrMissing},
		{"the constant 0", read("2;2 4,0 2;"), 2, api.ErrForm},
		{"the constant 1", read("2;2 4,4 1;"), 2, api.ErrForm},
		{"twice", read("2;2 4,4 4;"), 1, api.ErrForm},
		{"a literal and its opposite", read("2;3 2;"), 0, api.ErrForm},
		{"the most variables", api.GateGraph{Leaves: 500, Gates: many(500, [2]int{2, 4})}, 2000, api.OK},
		{"too many variables", api.GateGraph{Leaves: 500, Gates: many(501, [2]int{2, 4})}, 2000, api.ErrLarge},
		{"too many variables for a constant", api.GateGraph{Leaves: 500, Gates: many(501, [2]int{2, 4})}, 1, api.ErrLarge},
		{"the most gates", api.GateGraph{Leaves: 2, Gates: many(998, [2]int{2, 4})}, 2, api.OK},
		{"too many gates", api.GateGraph{Leaves: 2, Gates: many(200000, [2]int{2, 4})}, 2, api.ErrLarge},
		{"the form before too many variables", constant, 2, api.ErrForm},
	}
	for _, c := range cases {
		if f, e := gates.ClausesOf(c.g, c.literal); e != c.want || e != api.OK && !isZero(f) {
			t.Errorf("%s: %d clauses, %d, not %d", c.name, len(f.Clauses), e, c.want)
		}
	}
}
