package syntax_test

import (
	"regexp"
	"slices"
	"strconv"
	"strings"
	"testing"

	"ratchet/api"
	"ratchet/lexer"
)

// chapter is the grammar as the chapter has it; only a method with a type and a value, and one without, are written as two.
const chapter = `
package   = "package" capital "{" import* item* "}"
import    = "import" capital ";"
item      = data | function | module
data      = "data" capital name* "=" constructor ("|" constructor)* ";"
constructor = capital ("{" field,.. "}")?
field     = name ":" type
function  = "def" name (":" type)? "=" term ";"
module    = "module" capital "(" (name,..)? ")" "{" statement* "}"
statement = "reg" name ":" type "=" term ";"
          | "wire" name ":" type "=" term ";"
          | "input" name ":" type ";"
          | "output" name "=" term ";"
          | "inst" name "=" capital "(" (term,..)? ")" ";"
          | "rule" name "when" term body
          | "method" name "(" (field,..)? ")" ":" type "when" term "=" term body
          | "method" name "(" (field,..)? ")" "when" term body
          | "let" name "=" term ";"
          | "for" name "in" term ".." term body
          | "if" term body ("else" body)?
          | name "<=" term ";"
          | name "." name "(" (term,..)? ")" ";"
body      = "{" statement* "}"
type      = con ("->" type)?
con       = capital atom* | atom
atom      = name | capital | number | "(" type ")"
term      = "\" name "->" term
          | "let" name "=" term "in" term
          | "if" term "then" term "else" term
          | "case" term "of" "{" arm;.. "}"
          | level1
arm       = pattern "->" term
level1    = level2 ("||" level2)*
level2    = level3 ("&&" level3)*
level3    = level4 (("==" | "!=" | "<" | "<=") level4)?
level4    = level5 ("|" level5)*
level5    = level6 ("^" level6)*
level6    = level7 ("&" level7)*
level7    = level8 (("<<" | ">>") level8)*
level8    = level9 ("++" level9)*
level9    = level10 (("+" | "-") level10)*
level10   = level11 ("*" level11)*
level11   = ("~" | "!") level11 | level12
level12   = level13 level13*
level13   = simple ("." name | "[" number ":" number "]")*
simple    = name | number | literal | capital ("(" term,.. ")")?
          | ("extend" | "sextend" | "bits") "(" number "," term ")"
          | "log" "(" term ")" | "(" term ")"
pattern   = "_" | name | number | capital ("(" pattern,.. ")")?
`

// grammar is what each symbol may be: lists of symbols. The symbols that are nothing else are the kinds of tokens, and words in quotes.
type grammar struct {
	rules    map[string][][]string
	nullable map[string]bool
	pieces   []string
}

var pieceForm = regexp.MustCompile(`"[^"]*"|[a-z]+[0-9]*|[()|*?=]|[,;]\.\.`)

func grammarOf(text string) *grammar {
	g := &grammar{rules: map[string][][]string{}, nullable: map[string]bool{}, pieces: pieceForm.FindAllString(text, -1)}
	for len(g.pieces) > 0 {
		name := g.pieces[0]
		g.pieces = g.pieces[2:]
		g.rules[name] = g.alternatives()
	}
	for changed := true; changed; {
		changed = false
		for name, rules := range g.rules {
			for _, rule := range rules {
				if !g.nullable[name] && !slices.ContainsFunc(rule, func(s string) bool { return !g.nullable[s] }) {
					g.nullable[name] = true
					changed = true
				}
			}
		}
	}
	return g
}

func (g *grammar) next() string {
	if len(g.pieces) == 0 || len(g.pieces) > 1 && g.pieces[1] == "=" {
		return "" // another rule begins
	}
	return g.pieces[0]
}

func (g *grammar) alternatives() [][]string {
	l := [][]string{g.sequence()}
	for g.next() == "|" {
		g.pieces = g.pieces[1:]
		l = append(l, g.sequence())
	}
	return l
}

func (g *grammar) sequence() []string {
	var l []string
	for g.next() != "" && g.next() != "|" && g.next() != ")" {
		symbol := g.next()
		g.pieces = g.pieces[1:]
		if symbol == "(" {
			symbol = g.named(g.alternatives()...)
			g.pieces = g.pieces[1:]
		}
		switch sign := g.next(); sign {
		case "*":
			symbol = g.named(nil, []string{symbol})
			g.rules[symbol][1] = []string{symbol, g.rules[symbol][1][0]}
		case "?":
			symbol = g.named(nil, []string{symbol})
		case ",..", ";..":
			symbol = g.named([]string{symbol})
			g.rules[symbol] = append(g.rules[symbol], []string{symbol, `"` + sign[:1] + `"`, g.rules[symbol][0][0]})
		default:
			l = append(l, symbol)
			continue
		}
		g.pieces = g.pieces[1:]
		l = append(l, symbol)
	}
	return l
}

// named is a new symbol that may be these.
func (g *grammar) named(rules ...[]string) string {
	name := "part " + strconv.Itoa(len(g.rules))
	g.rules[name] = rules
	return name
}

// state is a rule, of which so much was found from a token on.
type state struct {
	name             string
	rule, dot, since int
}

// failure is the index of the first token at which a symbol cannot go on, the number of tokens if it ends too soon, or -1.
func (g *grammar) failure(start string, tokens []api.LexerToken) int {
	sets := make([]map[state]bool, len(tokens)+1)
	work := g.started(start, 0)
	for i := range sets {
		sets[i] = map[state]bool{}
		var later []state
		for len(work) > 0 {
			s := work[len(work)-1]
			work = work[:len(work)-1]
			if sets[i][s] {
				continue
			}
			sets[i][s] = true
			rule := g.rules[s.name][s.rule]
			if s.dot == len(rule) {
				for other := range sets[s.since] {
					if l := g.rules[other.name][other.rule]; other.dot < len(l) && l[other.dot] == s.name {
						other.dot++
						work = append(work, other)
					}
				}
				continue
			}
			moved := s
			moved.dot++
			if g.rules[rule[s.dot]] != nil {
				work = append(work, g.started(rule[s.dot], i)...)
				if g.nullable[rule[s.dot]] {
					work = append(work, moved)
				}
			} else if i < len(tokens) && isTerminal(rule[s.dot], tokens[i]) {
				later = append(later, moved)
			}
		}
		if len(later) == 0 && i < len(tokens) {
			return i
		}
		work = later
	}
	for rule, l := range g.rules[start] {
		if sets[len(tokens)][state{start, rule, len(l), 0}] {
			return -1
		}
	}
	return len(tokens)
}

func (g *grammar) started(name string, at int) []state {
	var l []state
	for rule := range g.rules[name] {
		l = append(l, state{name, rule, 0, at})
	}
	return l
}

// isTerminal says whether a token is one of a kind, or the word in quotes.
func isTerminal(symbol string, t api.LexerToken) bool {
	kinds := map[string]int{"name": api.LexerName, "capital": api.LexerCapital, "number": api.LexerNumber, "literal": api.LexerLiteral}
	if kind, known := kinds[symbol]; known {
		return t.Kind == kind
	}
	return symbol == `"`+t.Text+`"`
}

// agree holds what is read of a text against the grammar, and says whether the text is one of it.
func (g *grammar) agree(t *testing.T, s sort, text string) bool {
	t.Helper()
	tokens, _, _ := lexer.Tokens(text)
	failure := g.failure(s.name, tokens)
	tree, at, e := s.parse(text)
	if failure < 0 {
		// The tree of a text of the grammar may be wrong, but has no place then.
		if at != 0 || e != api.OK && e != api.ErrForm && e != api.ErrLarge {
			t.Fatalf("%s %q: %d, %d, not OK", s.name, text, at, e)
		}
		return true
	}
	want := len(text)
	if failure < len(tokens) {
		want = tokens[failure].At
	}
	if at != want || e != api.ErrSyntax || !isNothing(tree) {
		t.Fatalf("%s %q: %d, %d, not %d, ErrSyntax: %v", s.name, text, at, e, want, tree)
	}
	return false
}

// isNothing says whether a tree is a zero value.
func isNothing(tree any) bool {
	for _, zero := range []any{api.Package{}, api.Term{}, api.Type{}, api.Pattern{}, api.Statement{}} {
		if shown(tree) == shown(zero) {
			return true
		}
	}
	return false
}

// P6.1: all short texts of some tokens are read as the grammar has it, with the first token at which it cannot go on.
func TestGrammarShort(t *testing.T) {
	g := grammarOf(chapter)
	alphabets := map[string]struct {
		words  string
		length int
	}{
		"term":      {`a F 1 4'd3 ( ) , + == ~ . [ : log extend \ -> let if`, 3},
		"type":      {`a F 1 ( ) -> _ 4'd3 ,`, 4},
		"pattern":   {`a F 1 ( ) , _ 4'd3 ->`, 4},
		"statement": {`a F . ; = <= if { } else ( reg`, 4},
		"package":   {`package P { } import ; data`, 4},
	}
	for _, s := range sorts {
		good := 0
		words := strings.Fields(alphabets[s.name].words)
		texts := []string{""}
		for range alphabets[s.name].length + 1 {
			var longer []string
			for _, text := range texts {
				if g.agree(t, s, text) {
					good++
				}
				for _, word := range words {
					longer = append(longer, text+" "+word)
				}
			}
			texts = longer
		}
		if good == 0 {
			t.Error(s.name)
		}
	}
}

// P6.1: longer texts, most of them with tokens that are exchanged, left out or put in.
func TestGrammarLong(t *testing.T) {
	g := grammarOf(chapter)
	words := append(append(append(lexer.Keywords(), lexer.Operators()...), someNames[:4]...), "F", "Some", "1", "0", "4'd3")
	good, bad := 0, 0
	eachTree(3000, func(d *dice, s sort, tree any, text string) {
		tokens := tokensOf(text)
		if len(tokens) > 60 {
			return
		}
		for range d.below(3) {
			at := d.below(len(tokens) + 1)
			until := min(len(tokens), at+d.below(2))
			tokens = slices.Replace(tokens, at, until, list(d, 0, 1, func() string { return d.of(words) })...)
		}
		if d.below(20) == 0 {
			tokens = tokens[:d.below(len(tokens)+1)]
		}
		if g.agree(t, s, strings.Join(tokens, " ")) {
			good++
		} else {
			bad++
		}
	})
	if good < 300 || bad < 300 {
		t.Error(good, bad)
	}
}

// P6.1: the errors of the tokens come before those of the grammar, with their offsets; comments and space are no tokens.
func TestGrammarErrors(t *testing.T) {
	for _, c := range []struct {
		text string
		at   int
		want api.Errno
	}{
		{") @", 2, api.ErrSyntax},
		{"a \x80", 2, api.ErrKind},
		{") a /* b", 4, api.ErrOpen},
		{") abcdefghijklmnopq", 2, api.ErrName},
		{") 17'h0", 2, api.ErrRange},
		{rep(" ", api.MaxString+1), 0, api.ErrLarge},
		{rep("+ ", api.MaxLexerTokens+1), 2 * api.MaxLexerTokens, api.ErrLarge},
		{"", 0, api.ErrSyntax},
		{" ", 1, api.ErrSyntax},
		{" // a", 5, api.ErrSyntax},
		{"/* a */ )", 8, api.ErrSyntax},
		{rep(" ", api.MaxString), api.MaxString, api.ErrSyntax},
	} {
		for _, s := range sorts {
			tree, at, e := s.parse(c.text)
			if at != c.at || e != c.want || !isNothing(tree) {
				t.Errorf("%s %.40q: %d, %d, not %d, %d: %v", s.name, c.text, at, e, c.at, c.want, tree)
			}
		}
	}
}

// P6.1: the edge cases, and further places at which texts cannot go on.
func TestGrammarPlaces(t *testing.T) {
	for name, places := range map[string]map[string]int{
		"term": {
			"a == b == c": 7, "a < b <= c": 6, "- 1": 0, "f \\x -> x": 2, "F()": 2, "F(a,)": 4, "": 0, "a + * b": 4, "a +": 3,
			"a b )": 4, "case a of { }": 12, "case a of { _ -> 1; }": 20, "case a of { F() -> 1 }": 14, "a + let x = 1 in x": 4,
			"if a then b": 11, "let X = 1 in x": 4, "x.F": 2, "x.1": 2, "x[a : 1]": 2, "x[1 : a]": 6, "x[1]": 3, "x[1 : 2, 3]": 7,
			"extend(a, b)": 7, "extend(8)": 8, "extend 8": 7, "log()": 4, "log(a, b)": 5, "slice(a, 1)": 7, "bits x": 5, "\\X -> x": 1,
			"\\x y -> x": 3, "a _": 2, "a = b": 2, "a ~b": 2, "~": 1, "()": 1, "(a, b)": 2, "a of": 2, "( /*)*/": 7,
		},
		"type": {"a b": 2, "(a) b": 4, "(F) a": 4, "F ->": 4, "-> a": 0, "F (a": 4, "_": 0, "F 4'd3": 2, "a, b": 1, "": 0},
		"pattern": {
			"F()": 2, "F(a b)": 4, "a b": 2, "F a": 2, "(a)": 0, "4'd3": 0, "F(_, )": 5, "": 0, "_ _": 2,
		},
		"statement": {
			"method put() : Bit 4 when a { }": 28, "method put() when a = b { }": 20, "a = b;": 2, "reg x = 1;": 6, "package P { } x": 0,
			"a <= b": 6, "a.b;": 3, "a.b(1) ": 7, "a.B();": 2, "A <= b;": 0, "if a = b { }": 5, "if a { } else": 13, "if a { } else if b { }": 14,
			"rule A when b { }": 5, "rule a { }": 7, "for i in 0 { }": 11, "for i in 0 .. 1;": 15, "inst q = q();": 9, "inst q = Q;": 10,
			"inst q = Q(1,);": 13, "method m(a) when b { }": 10, "method m when b { }": 9, "method m() : _ when a = b { }": 13,
			"input a;": 7, "input a : Bit 4 = 1;": 16, "output o : Bit 4 = 1;": 9, "let x = 1 in x;": 10, "a <= b; c <= d;": 8, "": 0,
			"rule a when b { c <= 1 }": 23, "wire w : _ = 1;": 9, "if a { } }": 9,
		},
		"package": {
			"package P { def f = 1; import Q; }": 23, "package p { }": 8, "package P": 9, "package P { } x": 14, "package P { import Q }": 21,
			"package P { reg r : a = 1; }": 12, "package P { data a = F; }": 17, "package P { data T = ; }": 21, "package P { data T F = G; }": 19,
			"package P { data T = F { }; }": 25, "package P { data T = F { a }; }": 27, "package P { data T = F | ; }": 25, "package P { def F = 1; }": 16,
			"package P { def f x = 1; }": 18, "package P { def f : _ = 1; }": 20, "package P { module M { } }": 21, "package P { module M(N) { } }": 21,
			"package P { module m() { } }": 19, "package P { module M(n,) { } }": 23, "package P { ; }": 12, "": 0, "package P { data T = F; } }": 26,
		},
	} {
		for _, s := range sorts {
			if s.name != name {
				continue
			}
			for text, want := range places {
				if tree, at, e := s.parse(text); at != want || e != api.ErrSyntax || !isNothing(tree) {
					t.Errorf("%s %q: %d, %d, not %d", name, text, at, e, want)
				}
			}
		}
	}
}
