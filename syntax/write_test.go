package syntax_test

import (
	"slices"
	"strings"
	"testing"

	"ratchet/api"
	"ratchet/syntax"
)

// P6.3: the canonical texts of terms.
func TestWriteTerms(t *testing.T) {
	a, b, c, f, F := v("a"), v("b"), v("c"), v("f"), made("F")
	sum := op("+", a, b)
	open := []api.Term{lambda("x", a), let("x", a, b), choice(a, b, c), cases(a, arm(anyPattern(), b))}
	opened := []string{"\\x -> a", "let x = a in b", "if a then b else c", "case a of { _ -> b }"}
	type written struct {
		term api.Term
		want string
	}
	l := []written{
		{a, "a"}, {n(0), "0"}, {n(999999999), "999999999"}, {bits(255, 8), "8'd255"}, {bits(0, 1), "1'd0"}, {bits(65535, 16), "16'd65535"}, {F, "F"},
		{made("F", a), "F(a)"}, {made("F", sum, F, b), "F(a + b, F, b)"}, {made("F", made("G", a)), "F(G(a))"},
		{apply(f, a), "f a"}, {apply(apply(f, a), b), "f a b"}, {apply(f, apply(a, b)), "f (a b)"}, {apply(f, sum), "f (a + b)"}, {apply(sum, f), "(a + b) f"},
		{apply(f, op("~", a)), "f (~a)"}, {apply(op("~", f), a), "(~f) a"}, {apply(f, field(a, "x")), "f a.x"}, {apply(f, slice(a, 0, 4)), "f a[0 : 4]"},
		{apply(f, n(1)), "f 1"}, {apply(n(1), bits(1, 2)), "1 2'd1"}, {apply(f, op("log", sum)), "f log(a + b)"}, {apply(op("log", f), sum), "log(f) (a + b)"},
		{apply(f, F), "f F"}, {apply(F, f), "F f"}, {apply(F, F), "F F"}, {apply(F, made("F", a)), "F F(a)"}, {apply(made("F", a), sum), "F(a) (a + b)"},
		{apply(F, sum), "(F) (a + b)"}, {apply(apply(f, F), sum), "f (F) (a + b)"}, {apply(apply(F, f), sum), "F f (a + b)"},
		{apply(apply(apply(f, F), F), sum), "f (F) (F) (a + b)"}, {apply(apply(F, F), sum), "(F) (F) (a + b)"}, {apply(apply(apply(F, F), sum), F), "(F) (F) (a + b) F"},
		{apply(F, field(sum, "x")), "(F) (a + b).x"}, {apply(F, slice(apply(a, b), 0, 4)), "(F) (a b)[0 : 4]"}, {apply(F, slice(field(sum, "x"), 1, 2)), "(F) (a + b).x[1 : 2]"},
		{apply(field(F, "x"), sum), "F.x (a + b)"}, {apply(slice(F, 1, 2), sum), "F[1 : 2] (a + b)"}, {op("+", F, sum), "F + (a + b)"},
		{apply(apply(F, field(F, "x")), sum), "F F.x (a + b)"}, {op("~", apply(F, sum)), "~(F) (a + b)"}, {made("F", apply(F, sum)), "F((F) (a + b))"},
		{field(a, "x"), "a.x"}, {field(field(a, "x"), "y"), "a.x.y"}, {field(n(1), "x"), "1.x"}, {field(bits(1, 2), "x"), "2'd1.x"}, {field(F, "x"), "F.x"},
		{field(made("F", a), "x"), "F(a).x"}, {field(sum, "x"), "(a + b).x"}, {field(apply(f, a), "x"), "(f a).x"}, {field(op("~", a), "x"), "(~a).x"},
		{field(slice(a, 0, 1), "x"), "a[0 : 1].x"}, {slice(field(a, "x"), 0, 999999999), "a.x[0 : 999999999]"}, {slice(slice(a, 1, 2), 3, 4), "a[1 : 2][3 : 4]"},
		{slice(sum, 0, 1), "(a + b)[0 : 1]"}, {slice(op("~", a), 0, 1), "(~a)[0 : 1]"}, {slice(sized("bits", 4, a), 0, 1), "bits(4, a)[0 : 1]"},
		{field(sized("extend", 4, a), "x"), "extend(4, a).x"}, {field(sized("sextend", 4, a), "x"), "sextend(4, a).x"}, {field(op("log", a), "x"), "log(a).x"},
		{sized("extend", 8, sum), "extend(8, a + b)"}, {sized("sextend", 0, lambda("x", a)), "sextend(0, \\x -> a)"}, {op("log", choice(a, b, c)), "log(if a then b else c)"},
		{op("~", op("~", a)), "~~a"}, {op("!", op("~", op("!", a))), "!~!a"}, {op("~", apply(f, a)), "~f a"}, {op("~", sum), "~(a + b)"}, {op("!", field(a, "x")), "!a.x"},
		{op("*", op("~", a), op("!", b)), "~a * !b"}, {op("*", sum, c), "(a + b) * c"}, {op("+", op("*", a, b), c), "a * b + c"}, {op("-", sum, c), "a + b - c"},
		{op("-", a, sum), "a - (a + b)"}, {op("==", op("==", a, b), c), "(a == b) == c"}, {op("==", a, op("<", b, c)), "a == (b < c)"}, {op("<=", op("|", a, b), op("|", b, c)), "a | b <= b | c"},
		{op("&&", op("||", a, b), c), "(a || b) && c"}, {op("||", op("&&", a, b), op("&&", b, c)), "a && b || b && c"}, {op("+", a, apply(f, b)), "a + f b"},
		{cases(a, arm(pm("Some", pv("x")), b), arm(pn(3), c)), "case a of { Some(x) -> b; 3 -> c }"},
	}
	for i, part := range open {
		text := opened[i]
		l = append(l,
			written{part, text}, written{lambda("y", part), "\\y -> " + text}, written{let("y", part, part), "let y = " + text + " in " + text},
			written{choice(part, part, part), "if " + text + " then " + text + " else " + text}, written{cases(part, arm(pv("y"), part)), "case " + text + " of { y -> " + text + " }"},
			written{made("F", part, part), "F(" + text + ", " + text + ")"}, written{sized("bits", 3, part), "bits(3, " + text + ")"}, written{op("log", part), "log(" + text + ")"},
			written{apply(part, a), "(" + text + ") a"}, written{apply(a, part), "a (" + text + ")"}, written{op("||", part, part), "(" + text + ") || (" + text + ")"},
			written{op("*", part, part), "(" + text + ") * (" + text + ")"}, written{op("~", part), "~(" + text + ")"}, written{field(part, "x"), "(" + text + ").x"},
			written{slice(part, 1, 2), "(" + text + ")[1 : 2]"}, written{apply(F, part), "(F) (" + text + ")"},
		)
	}
	for _, x := range l {
		if s, e := syntax.PrintTerm(x.term); e != api.OK || s != x.want {
			t.Errorf("%s: %q, %d, not %q", brief(x.term), s, e, x.want)
		}
	}
}

// P6.3: parts of operators are in parentheses by the levels.
func TestWriteLevels(t *testing.T) {
	levels := []string{"||", "&&", "== != < <=", "|", "^", "&", "<< >>", "++", "+ -", "*"}
	for i, outer := range levels {
		for _, a := range strings.Fields(outer) {
			for j, inner := range levels {
				for _, b := range strings.Fields(inner) {
					left, right := "x "+b+" y "+a+" z", "x "+a+" y "+b+" z"
					if j < i || i == 2 && j == 2 {
						left = "(x " + b + " y) " + a + " z"
					}
					if j <= i {
						right = "x " + a + " (y " + b + " z)"
					}
					if s, e := syntax.PrintTerm(op(a, op(b, v("x"), v("y")), v("z"))); s != left || e != api.OK {
						t.Error(a, b, s, left, e)
					}
					if s, e := syntax.PrintTerm(op(a, v("x"), op(b, v("y"), v("z")))); s != right || e != api.OK {
						t.Error(a, b, s, right, e)
					}
				}
			}
		}
	}
}

// P6.3
func TestWriteTypesAndPatterns(t *testing.T) {
	for _, x := range []struct {
		typ  api.Type
		want string
	}{
		{tv("a"), "a"}, {tn(8), "8"}, {tc("Bool"), "Bool"}, {tc("Bit", tn(8)), "Bit 8"}, {arrow(tc("Bit", tn(8)), tc("Maybe", tc("Bit", tn(8)))), "Bit 8 -> Maybe (Bit 8)"},
		{arrow(arrow(tv("a"), tv("b")), tv("c")), "(a -> b) -> c"}, {arrow(tv("a"), arrow(tv("b"), tv("c"))), "a -> b -> c"},
		{tc("F", arrow(tv("a"), tv("b")), tc("G"), tc("H", tv("c")), tn(1)), "F (a -> b) G (H c) 1"}, {arrow(arrow(tv("a"), arrow(tv("b"), tv("c"))), tn(0)), "(a -> b -> c) -> 0"},
	} {
		if s, e := syntax.PrintType(x.typ); e != api.OK || s != x.want {
			t.Errorf("%q, %d, not %q", s, e, x.want)
		}
	}
	for _, x := range []struct {
		pattern api.Pattern
		want    string
	}{
		{anyPattern(), "_"}, {pv("x"), "x"}, {pn(0), "0"}, {pm("None"), "None"}, {pm("F", pm("None")), "F(None)"}, {pm("Pair", pm("Some", pv("x")), anyPattern()), "Pair(Some(x), _)"},
	} {
		if s, e := syntax.PrintPattern(x.pattern); e != api.OK || s != x.want {
			t.Errorf("%q, %d, not %q", s, e, x.want)
		}
	}
}

// P6.3, P6.5: canonical texts of statements and packages are written as themselves.
func TestWriteStatements(t *testing.T) {
	for _, text := range []string{
		"reg r : Bit 4 -> a = \\x -> x;", "wire w : Bool = False;", "input a : F (Bit 1);", "output o = a[0 : 1];", "inst q = Queue();", "inst q = Queue(1, n + 1);",
		"rule r when !a { }", "rule r when (F) (a + b) { b <= a; c <= b; }", "method m() when a { }", "method m() : a when True = r { }",
		"method m(x : Bit 4, y : a -> b) : Maybe (Bit 4) when a && b = Some(x) { q.deq(); }", "method none() when none { }", "let x = let y = 1 in y;",
		"for i in 0 .. n { }", "for i in a .. a + 1 { reg r : Bit 1 = 0; }", "if a { }", "if a { } else { if b { } }", "if a { b <= c; } else { b <= d; c <= d; }",
		"if if a then b else c { }", "a <= b <= c;", "a <= (b <= c) <= d;", "q.put();", "q.put(a, \\x -> x);",
	} {
		tree, at, e := syntax.ParseStatement(text)
		if s, f := syntax.PrintStatement(tree); at != 0 || e != api.OK || f != api.OK || s != text {
			t.Errorf("%q: %q, %d, %d", text, s, e, f)
		}
	}
	for _, text := range []string{
		"package P { }", "package P { import Q; import R; }", "package P { data T a b = T { x : a -> b, y : Bit 4 } | U | V { z : T a b }; }", "package P { def f = 1; def g : a -> a = \\x -> x; }",
		"package P { module M() { } module N(a) { rule r when a { } input b : Bit 1; } module O(a, b) { } }",
		"package P { import Q; data T = T; def f = 1; module M() { let x = 1; } }",
	} {
		tree, at, e := syntax.ParsePackage(text)
		if s, f := syntax.PrintPackage(tree); at != 0 || e != api.OK || f != api.OK || s != text {
			t.Errorf("%q: %q, %d, %d", text, s, e, f)
		}
	}
	for text, want := range map[string]string{
		"if a { } else { }":      "if a { }",
		"if(a){}":                "if a { }",
		"if a{b<=c;}else{b<=d;}": "if a { b <= c; } else { b <= d; }",
		"q . put ( ( a ) ) ;":    "q.put(a);",
		"method m ( x:a ) when(b)/* c */{ // d\n}": "method m(x : a) when b { }",
		"inst q=Queue ( 4'hf );":                   "inst q = Queue(4'd15);",
	} {
		tree, _, e := syntax.ParseStatement(text)
		if s, f := syntax.PrintStatement(tree); e != api.OK || f != api.OK || s != want {
			t.Errorf("%q: %q, %d, %d, not %q", text, s, e, f, want)
		}
	}
}

// P6.3: the limit of the text.
func TestWriteLimit(t *testing.T) {
	long := made("F", slices.Repeat(terms(v("abcdefghijklmnop")), 150)...)
	p := api.Package{Name: "P", Functions: slices.Repeat([]api.Function{{Name: "f", Type: tv("_"), Term: long}}, 22)}
	s, e := syntax.PrintPackage(p)
	if e != api.OK {
		t.Fatal(e)
	}
	// "import ABCDEF; " has 15 bytes; the last name fills what is left.
	rest := api.MaxString - len(s)
	for ; rest > 25; rest -= 15 {
		p.Imports = append(p.Imports, "ABCDEF")
	}
	p.Imports = append(p.Imports, rep("A", rest-9))
	if s, e := syntax.PrintPackage(p); e != api.OK || len(s) != api.MaxString {
		t.Error(len(s), e)
	}
	p.Name = "PP"
	if s, e := syntax.PrintPackage(p); e != api.ErrLarge || s != "" {
		t.Error(len(s), e)
	}
	p.Name = "p"
	if s, e := syntax.PrintPackage(p); e != api.ErrName || s != "" {
		t.Error(len(s), e)
	}
	// Far more than the limit.
	wideType := tc("F")
	for range 199 {
		wideType.Parts = append(wideType.Parts, tv("abcdefghijklmnop"))
	}
	c := api.Constructor{Name: "C", Fields: slices.Repeat([]api.Field{{Name: "f", Type: wideType}}, 40)}
	p = api.Package{Name: "P", Data: slices.Repeat([]api.Data{{Name: "D", Constructors: slices.Repeat([]api.Constructor{c}, 4)}}, 8)}
	if s, e := syntax.PrintPackage(p); e != api.ErrLarge || s != "" {
		t.Error(len(s), e)
	}
}

// P6.3: the errors of the trees.
func TestWriteErrors(t *testing.T) {
	if s, e := syntax.PrintTerm(api.Term{Kind: api.TermKinds}); s != "" || e != api.ErrKind {
		t.Error(s, e)
	}
	if s, e := syntax.PrintTerm(nested(40, v("x"))); s != "" || e != api.ErrLarge {
		t.Error(s, e)
	}
	if s, e := syntax.PrintType(tv("_")); s != "" || e != api.ErrName {
		t.Error(s, e)
	}
	if s, e := syntax.PrintPattern(pm("x")); s != "" || e != api.ErrName {
		t.Error(s, e)
	}
	if s, e := syntax.PrintStatement(api.Statement{Kind: api.StateWhen}); s != "" || e != api.ErrShape {
		t.Error(s, e)
	}
	if s, e := syntax.PrintPackage(api.Package{}); s != "" || e != api.ErrName {
		t.Error(s, e)
	}
}

// P6.5: what is written is read as the same tree; what was read is written as the same text.
func TestRoundTrip(t *testing.T) {
	count := map[string]int{}
	eachTree(15000, func(d *dice, s sort, tree any, text string) {
		read, at, e := s.parse(text)
		if at != 0 || e != api.OK || unplaced(read) != unplaced(tree) {
			t.Fatalf("%s %q: %+v, %d, %d, not %+v", s.name, text, read, at, e, tree)
		}
		if again, e := s.print(read); again != text || e != api.OK {
			t.Fatalf("%s %q: %q, %d", s.name, text, again, e)
		}
		count[s.name]++
	})
	for _, s := range sorts {
		if count[s.name] < 2000 {
			t.Error(s.name, count[s.name])
		}
	}
}

// P6.6: without any one pair of its parentheses a canonical text is no text of the same tree.
func TestNecessaryParentheses(t *testing.T) {
	count := 0
	eachTree(4000, func(d *dice, s sort, tree any, text string) {
		tokens := tokensOf(text)
		if len(tokens) > 120 {
			return
		}
		var open []int
		for i, token := range tokens {
			switch token {
			case "(":
				open = append(open, i)
			case ")":
				from := open[len(open)-1]
				open = open[:len(open)-1]
				fewer := slices.Concat(tokens[:from], tokens[from+1:i], tokens[i+1:])
				if read, _, e := s.parse(strings.Join(fewer, " ")); e == api.OK && unplaced(read) == unplaced(tree) {
					t.Fatalf("%q is as good as %q", strings.Join(fewer, " "), text)
				}
				count++
			}
		}
	})
	if count < 3000 {
		t.Error(count)
	}
}

// P6.3: the spaces in canonical texts of terms and patterns, by the tokens on both sides.
func TestSpaces(t *testing.T) {
	eachTree(4000, func(d *dice, s sort, tree any, text string) {
		if s.name != "term" && s.name != "pattern" {
			return
		}
		want := ""
		last := " "
		for _, token := range tokensOf(text) {
			calls := last[0] >= 'A' && last[0] <= 'Z' || slices.Contains([]string{"extend", "sextend", "bits", "log"}, last)
			switch {
			case last == " ":
			case strings.Contains(", ; ) ] [ .", token), strings.Contains("( [ \\ ~ ! .", last), token == "(" && calls:
			default:
				want += " "
			}
			want += token
			last = token
		}
		if text != want {
			t.Fatalf("%q, not %q", text, want)
		}
	})
}
