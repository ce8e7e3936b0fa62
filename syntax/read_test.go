package syntax_test

import (
	"strings"
	"testing"

	"ratchet/api"
	"ratchet/lexer"
	"ratchet/syntax"
)

// P6.1: the trees of terms with their offsets; examples 1 to 4, and the edge cases.
func TestReadTerms(t *testing.T) {
	for text, want := range map[string]string{
		"a":                    "[a@0]",
		" none // b":           "[none@1]",
		"slice":                "[slice@0]",
		"999999999":            "[999999999@0]",
		"8'hff":                "[255'8@0]",
		"16'd65535":            "[65535'16@0]",
		"F":                    "[F@0]",
		"F(a)":                 "[F@0 [a@2]]",
		"F (x)":                "[F@0 [x@3]]",
		"f (x)":                "[apply@0 [f@0] [x@3]]",
		"F(a, G(1), b)":        "[F@0 [a@2] [G@5 [1@7]] [b@11]]",
		"F a":                  "[apply@0 [F@0] [a@2]]",
		"(F) (a)":              "[apply@1 [F@1] [a@5]]",
		"F(a)(b)":              "[apply@0 [F@0 [a@2]] [b@5]]",
		"f x y":                "[apply@0 [apply@0 [f@0] [x@2]] [y@4]]",
		"f (g x) y":            "[apply@0 [apply@0 [f@0] [apply@3 [g@3] [x@5]]] [y@8]]",
		"1 4'd3 F a":           "[apply@0 [apply@0 [apply@0 [1@0] [3'4@2]] [F@7]] [a@9]]",
		"f log(x) bits(2, y)":  "[apply@0 [apply@0 [f@0] [log@2 [x@6]]] [bits 2@9 [y@17]]]",
		"extend(8, a + b)":     "[extend 8@0 [+@10 [a@10] [b@14]]]",
		"sextend(0, \\x -> x)": "[sextend@0 [lambda x@11 [x@17]]]",
		"x.f":                  "[.f@0 [x@0]]",
		"x[0 : 4][1 : 2].f":    "[.f@0 [slice 1 2@0 [slice 0 4@0 [x@0]]]]",
		"f x.y":                "[apply@0 [f@0] [.y@2 [x@2]]]",
		"(f x).y":              "[.y@1 [apply@1 [f@1] [x@3]]]",
		"1.f":                  "[.f@0 [1@0]]",
		"F.f":                  "[.f@0 [F@0]]",
		"((a)).f":              "[.f@2 [a@2]]",
		"~a":                   "[~@0 [a@1]]",
		"! ~ ! a":              "[!@0 [~@2 [!@4 [a@6]]]]",
		"~f x":                 "[~@0 [apply@1 [f@1] [x@3]]]",
		"~a.b * !c":            "[*@0 [~@0 [.b@1 [a@1]]] [!@7 [c@8]]]",
		"a + b * c - d":        "[-@0 [+@0 [a@0] [*@4 [b@4] [c@8]]] [d@12]]",
		"(a + b) * (c)":        "[*@1 [+@1 [a@1] [b@5]] [c@11]]",
		"a - b - c":            "[-@0 [-@0 [a@0] [b@4]] [c@8]]",
		"a - (b - c)":          "[-@0 [a@0] [-@5 [b@5] [c@9]]]",
		"a << b >> c":          "[>>@0 [<<@0 [a@0] [b@5]] [c@10]]",
		"a <= b":               "[<=@0 [a@0] [b@5]]",
		"(a == b) == c":        "[==@1 [==@1 [a@1] [b@6]] [c@12]]",
		"a == b && c < d":      "[&&@0 [==@0 [a@0] [b@5]] [<@10 [c@10] [d@14]]]",
		"\\x -> x y":           "[lambda x@0 [apply@6 [x@6] [y@8]]]",
		"\\x -> \\y -> x == y": "[lambda x@0 [lambda y@6 [==@12 [x@12] [y@17]]]]",
		"let x = 1 in x + x":   "[let x@0 [1@8] [+@13 [x@13] [x@17]]]",
		"if a then b else c d": "[if@0 [a@3] [b@10] [apply@17 [c@17] [d@19]]]",
		"if if a then b else c then d else if e then f else g":               "[if@0 [if@3 [a@6] [b@13] [c@20]] [d@27] [if@34 [e@37] [f@44] [g@51]]]",
		"case m of { Some(x) -> x; _ -> 0 }":                                 "[case@0 [m@5] <Some <x>> [x@23] <_> [0@31]]",
		"case case a of { b -> c } of { 0 -> case d of { F -> e }; _ -> f }": "[case@0 [case@5 [a@10] <b> [c@22]] <0> [case@36 [d@41] <F> [e@53]] <_> [f@63]]",
		"\\x -> if x == 0 then 8'hff else extend(8, x[0 : 4])":               "[lambda x@0 [if@6 [==@9 [x@9] [0@14]] [255'8@21] [extend 8@32 [slice 0 4@42 [x@42]]]]]",
		"(\\x -> x) y + (let z = a in z)":                                    "[+@1 [apply@1 [lambda x@1 [x@7]] [y@10]] [let z@15 [a@23] [z@28]]]",
	} {
		tree, at, e := syntax.ParseTerm(text)
		if e != api.OK || at != 0 || brief(tree) != want {
			t.Errorf("%q: %s, %d, %d, not %s", text, brief(tree), at, e, want)
		}
	}
}

// P6.1: each operator of the levels 1 to 10 binds as the chapter has it, and leans to the left.
func TestReadLevels(t *testing.T) {
	levels := []string{"||", "&&", "== != < <=", "|", "^", "&", "<< >>", "++", "+ -", "*"}
	for i, low := range levels {
		for _, a := range strings.Fields(low) {
			for j, high := range levels {
				for _, b := range strings.Fields(high) {
					tree, _, e := syntax.ParseTerm("x " + a + " y " + b + " z")
					want := op(b, op(a, v("x"), v("y")), v("z"))
					if j > i {
						want = op(a, v("x"), op(b, v("y"), v("z")))
					}
					if i == 2 && j == 2 {
						if e != api.ErrSyntax {
							t.Error(a, b, e)
						}
					} else if e != api.OK || unplaced(tree) != unplaced(want) {
						t.Error(a, b, brief(tree), e)
					}
				}
			}
		}
	}
}

// P6.1: example 5.
func TestReadTypes(t *testing.T) {
	for text, want := range map[string]api.Type{
		"a":                      tv("a"),
		"Bool":                   tc("Bool"),
		"8":                      tn(8),
		"Bit 8 -> Maybe (Bit 8)": arrow(tc("Bit", tn(8)), tc("Maybe", tc("Bit", tn(8)))),
		"a -> b -> c":            arrow(tv("a"), arrow(tv("b"), tv("c"))),
		"(a -> b) -> c":          arrow(arrow(tv("a"), tv("b")), tv("c")),
		"F a 1 G (H b)":          tc("F", tv("a"), tn(1), tc("G"), tc("H", tv("b"))),
		"((a))":                  tv("a"),
		"F (a -> b)":             tc("F", arrow(tv("a"), tv("b"))),
		"(F)":                    tc("F"),
	} {
		if tree, at, e := syntax.ParseType(text); e != api.OK || at != 0 || shown(tree) != shown(want) {
			t.Errorf("%q: %v, %d, %d", text, tree, at, e)
		}
	}
}

// P6.1
func TestReadPatterns(t *testing.T) {
	for text, want := range map[string]api.Pattern{
		"_":                anyPattern(),
		"x":                pv("x"),
		"12":               pn(12),
		"None":             pm("None"),
		"Pair(Some(x), _)": pm("Pair", pm("Some", pv("x")), anyPattern()),
		"F (1)":            pm("F", pn(1)),
	} {
		if tree, at, e := syntax.ParsePattern(text); e != api.OK || at != 0 || shown(tree) != shown(want) {
			t.Errorf("%q: %v, %d, %d", text, tree, at, e)
		}
	}
}

// placed is a term with an offset.
func placed(at int, t api.Term) api.Term {
	t.At = at
	return t
}

// P6.1: the fields of all kinds of statements.
func TestReadStatements(t *testing.T) {
	bit := tc("Bit", tn(4))
	a := func(at int) api.Term { return placed(at, v("a")) }
	for text, want := range map[string]api.Statement{
		"reg r : Bit 4 = a;":                {Kind: api.StateRegister, Name: "r", Type: bit, Terms: terms(a(16))},
		"wire w : Bit 4 = a;":               {Kind: api.StateWire, Name: "w", Type: bit, Terms: terms(a(17))},
		" input i : Bit 4;":                 {Kind: api.StateInput, At: 1, Name: "i", Type: bit},
		"output o = a;":                     {Kind: api.StateOutput, Name: "o", Terms: terms(a(11))},
		"inst q = Queue();":                 {Kind: api.StateInstance, Name: "q", Other: "Queue"},
		"inst q = Queue(a, a);":             {Kind: api.StateInstance, Name: "q", Other: "Queue", Terms: terms(a(15), a(18))},
		"rule r when a { }":                 {Kind: api.StateRule, Name: "r", Terms: terms(a(12))},
		"rule r when a { b <= a; }":         {Kind: api.StateRule, Name: "r", Terms: terms(a(12)), Body: states(api.Statement{Kind: api.StateWrite, At: 16, Name: "b", Terms: terms(a(21))})},
		"method m() when a { }":             {Kind: api.StateMethod, Name: "m", Type: tv("_"), Terms: terms(a(16), v("none"))},
		"method m() : Bit 4 when a = a { }": {Kind: api.StateMethod, Name: "m", Type: bit, Terms: terms(a(24), a(28))},
		"method m(x : Bit 4, y : z) when a { q.deq(); }": {Kind: api.StateMethod, Name: "m", Type: tv("_"), Params: []api.Field{{Name: "x", Type: bit}, {Name: "y", Type: tv("z")}},
			Terms: terms(a(32), v("none")), Body: states(api.Statement{Kind: api.StateCall, At: 36, Name: "q", Other: "deq"})},
		"method m() when none { }": {Kind: api.StateMethod, Name: "m", Type: tv("_"), Terms: terms(placed(16, v("none")), v("none"))},
		"let l = a;":               {Kind: api.StateLet, Name: "l", Terms: terms(a(8))},
		"for i in 0 .. a { input i : Bit 4; }": {Kind: api.StateFor, Name: "i", Terms: terms(placed(9, n(0)), a(14)),
			Body: states(api.Statement{Kind: api.StateInput, At: 18, Name: "i", Type: bit})},
		"if a { }":          {Kind: api.StateWhen, Terms: terms(a(3))},
		"if a { } else { }": {Kind: api.StateWhen, Terms: terms(a(3))},
		"if a { let l = a; } else { b <= a; if a { } }": {Kind: api.StateWhen, Terms: terms(a(3)),
			Body: states(api.Statement{Kind: api.StateLet, At: 7, Name: "l", Terms: terms(a(15))}),
			Else: states(api.Statement{Kind: api.StateWrite, At: 27, Name: "b", Terms: terms(a(32))}, api.Statement{Kind: api.StateWhen, At: 35, Terms: terms(a(38))})},
		"b <= a;":              {Kind: api.StateWrite, Name: "b", Terms: terms(a(5))},
		"q.put(a, a);":         {Kind: api.StateCall, Name: "q", Other: "put", Terms: terms(a(6), a(9))},
		"b <= a <= a;":         {Kind: api.StateWrite, Name: "b", Terms: terms(placed(5, op("<=", a(5), a(10))))},
		"/* { */ q . put ( );": {Kind: api.StateCall, At: 8, Name: "q", Other: "put"},
	} {
		if tree, at, e := syntax.ParseStatement(text); e != api.OK || at != 0 || shown(tree) != shown(want) {
			t.Errorf("%q: %+v, %d, %d, not %+v", text, tree, at, e, want)
		}
	}
}

// P6.1: example 6, and items in another order.
func TestReadPackages(t *testing.T) {
	text := "package P { import Q; data Maybe a = None | Some { value : a }; def id = \\x -> x; module M(n) { reg r : Bit 4 = 0; rule go when r == 0 { r <= r + 1; } method get() : Bit 4 when True = r { } } }"
	bit := tc("Bit", tn(4))
	r := func(at int) api.Term { return placed(at, v("r")) }
	want := api.Package{
		Name:      "P",
		Imports:   []string{"Q"},
		Data:      []api.Data{{Name: "Maybe", Params: []string{"a"}, Constructors: []api.Constructor{{Name: "None"}, {Name: "Some", Fields: []api.Field{{Name: "value", Type: tv("a")}}}}}},
		Functions: []api.Function{{Name: "id", Type: tv("_"), Term: placed(73, lambda("x", placed(79, v("x"))))}},
		Modules: []api.ModuleText{{Name: "M", Params: []string{"n"}, Body: states(
			api.Statement{Kind: api.StateRegister, At: 96, Name: "r", Type: bit, Terms: terms(placed(112, n(0)))},
			api.Statement{Kind: api.StateRule, At: 115, Name: "go", Terms: terms(placed(128, op("==", r(128), placed(133, n(0))))),
				Body: states(api.Statement{Kind: api.StateWrite, At: 137, Name: "r", Terms: terms(placed(142, op("+", r(142), placed(146, n(1)))))})},
			api.Statement{Kind: api.StateMethod, At: 151, Name: "get", Type: bit, Terms: terms(placed(177, made("True")), r(184))},
		)}},
	}
	if tree, at, e := syntax.ParsePackage(text); e != api.OK || at != 0 || shown(tree) != shown(want) {
		t.Errorf("%+v, %d, %d, not %+v", tree, at, e, want)
	}
	if s, e := syntax.PrintPackage(want); e != api.OK || s != text {
		t.Error(s, e)
	}
	text = "package P { import Q; import Q; module M() { } def f : a = 1; data T = T { x : a, y : b } | U; module N(a, b) { } data U a a = V; def f = 2; }"
	want = api.Package{
		Name:    "P",
		Imports: []string{"Q", "Q"},
		Data: []api.Data{
			{Name: "T", Constructors: []api.Constructor{{Name: "T", Fields: []api.Field{{Name: "x", Type: tv("a")}, {Name: "y", Type: tv("b")}}}, {Name: "U"}}},
			{Name: "U", Params: []string{"a", "a"}, Constructors: []api.Constructor{{Name: "V"}}},
		},
		Functions: []api.Function{{Name: "f", Type: tv("a"), Term: n(1)}, {Name: "f", Type: tv("_"), Term: n(2)}},
		Modules:   []api.ModuleText{{Name: "M"}, {Name: "N", Params: []string{"a", "b"}}},
	}
	if tree, at, e := syntax.ParsePackage(text); e != api.OK || at != 0 || unplaced(tree) != unplaced(want) {
		t.Errorf("%+v, %d, %d, not %+v", tree, at, e, want)
	}
	sorted := "package P { import Q; import Q; data T = T { x : a, y : b } | U; data U a a = V; def f : a = 1; def f = 2; module M() { } module N(a, b) { } }"
	if s, e := syntax.PrintPackage(want); e != api.OK || s != sorted {
		t.Error(s, e)
	}
	if tree, at, e := syntax.ParsePackage(" package P { } "); e != api.OK || at != 0 || shown(tree) != shown(api.Package{Name: "P"}) {
		t.Error(tree, at, e)
	}
}

// P6.1: texts of the grammar whose trees are wrong.
func TestReadErrorsOfTrees(t *testing.T) {
	for _, c := range []struct {
		sort, text string
		want       api.Errno
	}{
		{"term", rep("~", 39) + "a", api.OK},
		{"term", rep("~", 40) + "a", api.ErrLarge},
		{"term", "a" + rep(" + a", 39), api.OK},
		{"term", "a" + rep(" + a", 40), api.ErrLarge},
		{"term", rep("(", 1999) + "a" + rep(")", 1999), api.OK},
		{"term", "F(" + rep("a, ", 198) + "a)", api.OK},
		{"term", "F(" + rep("a, ", 199) + "a)", api.ErrLarge},
		{"type", "F" + rep(" a", 199), api.OK},
		{"type", "F" + rep(" a", 200), api.ErrLarge},
		{"type", rep("a -> ", 39) + "a", api.OK},
		{"type", rep("a -> ", 40) + "a", api.ErrLarge},
		{"pattern", rep("F(", 39) + "_" + rep(")", 39), api.OK},
		{"pattern", rep("F(", 40) + "_" + rep(")", 40), api.ErrLarge},
		{"statement", "if a { " + rep("a <= b; ", 99) + "}", api.OK},
		{"statement", "if a { " + rep("a <= b; ", 100) + "}", api.ErrLarge},
		{"statement", "method m() : a when b = none { }", api.ErrForm},
		{"statement", "method m() : a when b = (none) { }", api.ErrForm},
		{"statement", "method m() : a when b = ~none { }", api.OK},
		{"statement", "if a { if b { } else { method m() : a when b = none { } } }", api.ErrForm},
		{"package", "package P { " + rep("import Q; ", 40) + "}", api.OK},
		{"package", "package P { " + rep("import Q; ", 41) + "}", api.ErrLarge},
		{"package", "package P { " + rep("def f = a; ", 40) + rep("module M() { } ", 40) + "}", api.OK},
		{"package", "package P { " + rep("module M() { } ", 41) + "}", api.ErrLarge},
		{"package", "package P { module M() { method m() : a when b = none { } } }", api.ErrForm},
		{"package", "package P { def f = none; }", api.OK},
	} {
		for _, s := range sorts {
			if s.name != c.sort {
				continue
			}
			if tree, at, e := s.parse(c.text); at != 0 || e != c.want || e != api.OK && !isNothing(tree) || e == api.OK && isNothing(tree) {
				t.Errorf("%s %.60q: %d, %d, not %d", s.name, c.text, at, e, c.want)
			}
		}
	}
	// As many levels as there may be tokens.
	for _, text := range []string{rep("(", 4000), rep("~", 3999) + "a", rep("F(", 2000), rep("\\x -> ", 1333) + "a", rep("if a then ", 1333)} {
		if tree, _, e := syntax.ParseTerm(text); e != api.ErrSyntax && e != api.ErrLarge || !isNothing(tree) {
			t.Errorf("%.20q: %d", text, e)
		}
	}
	if tree, _, e := syntax.ParseStatement(rep("if a { ", 999) + rep("} ", 999)); e != api.ErrLarge || !isNothing(tree) {
		t.Error(e)
	}
}

// loose is the text of a term in which all parts are in parentheses, with space and comments about the tokens.
func loose(d *dice, t api.Term) string {
	space := func() string { return d.of([]string{" ", "\n", "\t /* a ( */ ", " // b )\n"}) }
	part := func(i int) string { return "(" + space() + loose(d, t.Parts[i]) + space() + ")" }
	parts := func() string {
		var l []string
		for i := range t.Parts {
			l = append(l, space()+part(i))
		}
		return strings.Join(l, space()+",")
	}
	switch t.Kind {
	case api.TermLambda:
		return "\\" + space() + t.Name + space() + "->" + part(0)
	case api.TermApply:
		return part(0) + part(1)
	case api.TermLet:
		return "let" + space() + t.Name + "=" + part(0) + "in" + part(1)
	case api.TermIf:
		return "if" + part(0) + "then" + part(1) + "else" + part(2)
	case api.TermMake:
		if len(t.Parts) > 0 {
			return t.Name + space() + "(" + parts() + ")"
		}
	case api.TermCase:
		var arms []string
		for _, a := range t.Arms {
			text, _ := syntax.PrintPattern(a.Pattern)
			arms = append(arms, text+"->("+loose(d, a.Body)+")")
		}
		return "case" + part(0) + "of" + space() + "{" + strings.Join(arms, ";") + "}"
	case api.TermField:
		return part(0) + space() + "." + space() + t.Name
	case api.TermPrimitive:
		switch {
		case len(t.Parts) == 2:
			return part(0) + t.Name + part(1)
		case t.Name == "slice":
			low, _ := syntax.PrintTerm(n(t.Value))
			width, _ := syntax.PrintTerm(n(t.Width))
			return part(0) + "[" + low + space() + ":" + width + space() + "]"
		case t.Name == "~" || t.Name == "!" || t.Name == "log":
			return t.Name + space() + part(0)
		}
		width, _ := syntax.PrintTerm(n(t.Width))
		return t.Name + space() + "(" + width + "," + part(0) + ")"
	}
	text, _ := syntax.PrintTerm(t)
	return text
}

// P6.1, P6.6: a term with many parentheses is the same term, and its canonical text has no more tokens.
func TestReadParentheses(t *testing.T) {
	count := 0
	eachTree(6000, func(d *dice, s sort, tree any, text string) {
		if s.name != "term" {
			return
		}
		other := loose(d, tree.(api.Term))
		tokens, _, e := lexer.Tokens(other)
		if e != api.OK {
			return
		}
		read, _, e := syntax.ParseTerm(other)
		if e != api.OK || unplaced(read) != unplaced(tree) {
			t.Fatalf("%q: %s, %d", other, brief(read), e)
		}
		if canonical, e := syntax.PrintTerm(read); e != api.OK || canonical != text || len(tokensOf(text)) > len(tokens) {
			t.Fatalf("%q: %q, %d, not %q", other, canonical, e, text)
		}
		checkPlaces(t, other, read)
		count++
	})
	if count < 800 {
		t.Error(count)
	}
}

// checkPlaces holds that each term in a tree begins with a token of the text at its offset.
func checkPlaces(t *testing.T, text string, tree api.Term) {
	tokens, _, _ := lexer.Tokens(text)
	texts := map[int]string{}
	for _, token := range tokens {
		texts[token.At] = token.Text
	}
	eachTerm(tree, func(part api.Term) {
		begin := texts[part.At]
		want := begin
		switch part.Kind {
		case api.TermName, api.TermMake:
			want = part.Name
		case api.TermNumber, api.TermBits:
			want, _ = syntax.PrintTerm(part)
		case api.TermLambda:
			want = "\\"
		case api.TermLet:
			want = "let"
		case api.TermIf:
			want = "if"
		case api.TermCase:
			want = "case"
		case api.TermPrimitive:
			if len(part.Parts) == 1 && part.Name != "slice" {
				want = part.Name
			}
		}
		left := part.Kind == api.TermApply || part.Kind == api.TermField || part.Kind == api.TermPrimitive && (len(part.Parts) == 2 || part.Name == "slice")
		if begin == "" || begin != want || left && part.At != part.Parts[0].At {
			t.Fatalf("%q: %q, not %q, at %d", text, begin, want, part.At)
		}
	})
}

// P6.7
func TestReadPlaces(t *testing.T) {
	eachTree(5000, func(d *dice, s sort, tree any, text string) {
		switch read, _, _ := s.parse(text); tree := read.(type) {
		case api.Term:
			checkPlaces(t, text, tree)
		case api.Statement:
			ofStatement(t, text, tree)
		case api.Package:
			for _, f := range tree.Functions {
				checkPlaces(t, text, f.Term)
			}
			for _, m := range tree.Modules {
				for _, part := range m.Body {
					ofStatement(t, text, part)
				}
			}
		}
	})
}

// ofStatement checks the places of a statement, of those in it, and of their terms.
func ofStatement(t *testing.T, text string, s api.Statement) {
	word := []string{"reg", "wire", "input", "output", "inst", "rule", "method", "let", "for", "if", s.Name, s.Name}[s.Kind]
	if !strings.HasPrefix(text[s.At:], word) {
		t.Fatalf("%q: %q at %d", text, word, s.At)
	}
	for i, part := range s.Terms {
		if s.Kind != api.StateMethod || i == 0 || part.Name != "none" {
			checkPlaces(t, text, part)
		}
	}
	for _, list := range [][]api.Statement{s.Body, s.Else} {
		for _, part := range list {
			ofStatement(t, text, part)
		}
	}
}
