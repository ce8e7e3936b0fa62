package syntax_test

import (
	"slices"
	"testing"

	"ratchet/api"
	"ratchet/syntax"
)

// P6.4: example 4, and all that binds names.
func TestFreeIn(t *testing.T) {
	for text, want := range map[string][]string{
		"a":                                  {"a"},
		"1":                                  nil,
		"F":                                  nil,
		"4'd3":                               nil,
		"z y x z":                            {"x", "y", "z"},
		"a1 aB a_ a":                         {"a", "a1", "aB", "a_"},
		"case m of { Some(x) -> x; _ -> 0 }": {"m"},
		"case m of { Some(x) -> x y; _ -> \\z -> z a }": {"a", "m", "y"},
		"case x of { x -> x }":                          {"x"},
		"case a of { x -> x; y -> x }":                  {"a", "x"},
		"case a of { F(x, G(y), _, 1) -> f x y }":       {"a", "f"},
		"case a of { F(x, x) -> x x }":                  {"a"},
		"(case a of { F(x, x) -> 0 }) x":                {"a", "x"},
		"\\x -> x y":                                    {"y"},
		"(\\x -> x) x":                                  {"x"},
		"x (\\x -> x)":                                  {"x"},
		"\\x -> \\x -> x":                               nil,
		"\\x -> (\\x -> x) x":                           nil,
		"\\x -> (\\y -> x) y":                           {"y"},
		"let x = x in x":                                nil,
		"let x = y in x z":                              {"y", "z"},
		"(let x = 1 in x) x":                            {"x"},
		"let f = \\x -> f x in f x":                     {"x"},
		"if a then b else c":                            {"a", "b", "c"},
		"F(a, G(b))":                                    {"a", "b"},
		"x.y":                                           {"x"},
		"\\x -> x.y":                                    nil,
		"a + b * ~c":                                    {"a", "b", "c"},
		"x[0 : 4] ++ extend(8, y) ++ log(none)":         {"none", "x", "y"},
	} {
		tree, _, e := syntax.ParseTerm(text)
		if l, f := syntax.FreeIn(tree); e != api.OK || f != api.OK || !slices.Equal(l, want) {
			t.Errorf("%q: %v, %d, not %v", text, l, f, want)
		}
	}
}

// P6.4
func TestBoundBy(t *testing.T) {
	for text, want := range map[string][]string{
		"_":                            nil,
		"1":                            nil,
		"x":                            {"x"},
		"None":                         nil,
		"Pair(Some(x), _)":             {"x"},
		"F(z, G(y, 1, H(x)), _, a, z)": {"z", "y", "x", "a", "z"},
	} {
		tree, _, e := syntax.ParsePattern(text)
		if l, f := syntax.BoundBy(tree); e != api.OK || f != api.OK || !slices.Equal(l, want) {
			t.Errorf("%q: %v, %d, not %v", text, l, f, want)
		}
	}
}

// P6.4
func TestSizeOf(t *testing.T) {
	for text, want := range map[string][2]int{
		"a":                                  {1, 1},
		"F":                                  {1, 1},
		"4'd3":                               {1, 1},
		"F(a, b)":                            {3, 2},
		"f x y":                              {5, 3},
		"a + b * c":                          {5, 3},
		"x[0 : 4].f":                         {3, 3},
		"\\x -> x":                           {2, 2},
		"let x = 1 in f x":                   {5, 3},
		"if a then b else c d":               {6, 3},
		"log(~a)":                            {3, 3},
		"case m of { Some(x) -> x; _ -> 0 }": {7, 3},
		"case m of { F(G(x)) -> x }":         {6, 4},
		"case m of { Some(x) -> x y; _ -> \\z -> z a }": {12, 4},
	} {
		tree, _, e := syntax.ParseTerm(text)
		if x, f := syntax.SizeOf(tree); e != api.OK || f != api.OK || x != want {
			t.Errorf("%q: %v, %d, not %v", text, x, f, want)
		}
	}
	if x, e := syntax.SizeOf(wide(200)); x != [2]int{200, 2} || e != api.OK {
		t.Error(x, e)
	}
	if x, e := syntax.SizeOf(nested(39, v("a"))); x != [2]int{40, 40} || e != api.OK {
		t.Error(x, e)
	}
}

// P6.4: the error of the tree.
func TestNamesErrors(t *testing.T) {
	for _, c := range []struct {
		term api.Term
		want api.Errno
	}{
		{nested(40, v("x")), api.ErrLarge}, {wide(201), api.ErrLarge}, {api.Term{Kind: api.TermKinds}, api.ErrKind}, {choice(v("a"), v("b"), v("c")).Parts[0], api.OK}, {api.Term{Kind: api.TermApply}, api.ErrShape},
		{api.Term{Kind: api.TermLet, Name: "x"}, api.ErrShape}, {lambda("X", v("a")), api.ErrName}, {placed(-1, v("a")), api.ErrRange}, {cases(v("a"), arm(pn(-1), v("a"))), api.ErrRange}, {lambda("x", op("log", with(n(1), func(x *api.Term) { x.Name = "a" }))), api.ErrForm},
	} {
		if l, e := syntax.FreeIn(c.term); e != c.want || e != api.OK && len(l) != 0 {
			t.Errorf("%+v: %v, %d, not %d", c.term, l, e, c.want)
		}
		if x, e := syntax.SizeOf(c.term); e != c.want || e != api.OK && x != [2]int{} {
			t.Errorf("%+v: %v, %d, not %d", c.term, x, e, c.want)
		}
		if x, e := syntax.Unplaced(c.term); e != c.want || e != api.OK && !isNothing(x) {
			t.Errorf("%+v: %v, %d, not %d", c.term, x, e, c.want)
		}
	}
	for _, c := range []struct {
		pattern api.Pattern
		want    api.Errno
	}{
		{pm("F", slices.Repeat([]api.Pattern{pv("x")}, 200)...), api.ErrLarge}, {pm("F", pv("x"), pv("X")), api.ErrName}, {pm("F", pv("x"), pn(-1)), api.ErrRange}, {api.Pattern{Kind: -1}, api.ErrKind},
	} {
		if l, e := syntax.BoundBy(c.pattern); len(l) != 0 || e != c.want {
			t.Errorf("%+v: %v, %d, not %d", c.pattern, l, e, c.want)
		}
	}
}

// freeByHand is the free names of a term as a set, from those of its parts.
func freeByHand(t api.Term) map[string]bool {
	free := map[string]bool{}
	join := func(part api.Term, without ...string) {
		for name := range freeByHand(part) {
			if !slices.Contains(without, name) {
				free[name] = true
			}
		}
	}
	for _, part := range t.Parts {
		if t.Kind == api.TermLambda || t.Kind == api.TermLet {
			join(part, t.Name)
		} else {
			join(part)
		}
	}
	for _, a := range t.Arms {
		names, _ := syntax.BoundBy(a.Pattern)
		join(a.Body, names...)
	}
	if t.Kind == api.TermName {
		free[t.Name] = true
	}
	return free
}

// extentByHand is the size and the depth of a term.
func extentByHand(t api.Term) [2]int {
	x := [2]int{1, 0}
	join := func(part [2]int) { x = [2]int{x[0] + part[0], max(x[1], part[1])} }
	for _, part := range t.Parts {
		join(extentByHand(part))
	}
	for _, a := range t.Arms {
		join(extentOfPattern(a.Pattern))
		join(extentByHand(a.Body))
	}
	return [2]int{x[0], x[1] + 1}
}

func extentOfPattern(p api.Pattern) [2]int {
	x := [2]int{1, 0}
	for _, part := range p.Parts {
		y := extentOfPattern(part)
		x = [2]int{x[0] + y[0], max(x[1], y[1])}
	}
	return [2]int{x[0], x[1] + 1}
}

// P6.4, P6.8: names, sizes and offsets of arbitrary terms.
func TestNamesOfArbitraryTerms(t *testing.T) {
	count := 0
	eachTree(10000, func(d *dice, s sort, tree any, text string) {
		if s.name != "term" {
			return
		}
		count++
		placedTree, _, _ := syntax.ParseTerm(text + " // " + text)
		term := tree.(api.Term)
		l, e := syntax.FreeIn(placedTree)
		free := freeByHand(term)
		if e != api.OK || len(l) != len(free) || !slices.IsSorted(l) || slices.ContainsFunc(l, func(name string) bool { return !free[name] }) {
			t.Fatalf("%q: %v, %d, not %v", text, l, e, free)
		}
		if x, e := syntax.SizeOf(placedTree); e != api.OK || x != extentByHand(term) {
			t.Fatalf("%q: %v, %d, not %v", text, x, e, extentByHand(term))
		}
		if x, e := syntax.Unplaced(placedTree); e != api.OK || shown(x) != shown(tree) {
			t.Fatalf("%q: %+v, %d", text, x, e)
		}
		if term.Kind == api.TermLambda {
			inner, _ := syntax.FreeIn(term.Parts[0])
			if want := slices.DeleteFunc(inner, func(name string) bool { return name == term.Name }); !slices.Equal(l, want) {
				t.Fatalf("%q: %v, not %v", text, l, want)
			}
		}
		if term.Kind == api.TermApply {
			want, _ := syntax.FreeIn(term.Parts[0])
			more, _ := syntax.FreeIn(term.Parts[1])
			want = append(want, more...)
			slices.Sort(want)
			if want = slices.Compact(want); !slices.Equal(l, want) {
				t.Fatalf("%q: %v, not %v", text, l, want)
			}
		}
	})
	if count < 1500 {
		t.Error(count)
	}
}
