package syntax_test

import (
	"fmt"
	"math"
	"regexp"
	"strings"

	"ratchet/api"
	"ratchet/lexer"
	"ratchet/syntax"
)

// extremes are numbers at which careless arithmetic panics or wraps around.
var extremes = []int{math.MinInt, math.MinInt + 1, math.MinInt32, -2, -1, math.MaxInt32, math.MaxInt - 1, math.MaxInt}

func rep(s string, n int) string { return strings.Repeat(s, n) }

// TREES

func v(name string) api.Term { return api.Term{Kind: api.TermName, Name: name} }

func n(value int) api.Term { return api.Term{Kind: api.TermNumber, Value: value} }

func bits(value, width int) api.Term {
	return api.Term{Kind: api.TermBits, Value: value, Width: width}
}

func lambda(name string, body api.Term) api.Term {
	return api.Term{Kind: api.TermLambda, Name: name, Parts: terms(body)}
}

func apply(f, x api.Term) api.Term { return api.Term{Kind: api.TermApply, Parts: terms(f, x)} }

func let(name string, a, b api.Term) api.Term {
	return api.Term{Kind: api.TermLet, Name: name, Parts: terms(a, b)}
}

func choice(a, b, c api.Term) api.Term { return api.Term{Kind: api.TermIf, Parts: terms(a, b, c)} }

func made(name string, parts ...api.Term) api.Term {
	return api.Term{Kind: api.TermMake, Name: name, Parts: parts}
}

func cases(of api.Term, arms ...api.Arm) api.Term {
	return api.Term{Kind: api.TermCase, Parts: terms(of), Arms: arms}
}

func arm(p api.Pattern, body api.Term) api.Arm { return api.Arm{Pattern: p, Body: body} }

func field(t api.Term, name string) api.Term {
	return api.Term{Kind: api.TermField, Name: name, Parts: terms(t)}
}

func op(name string, parts ...api.Term) api.Term {
	return api.Term{Kind: api.TermPrimitive, Name: name, Parts: parts}
}

func slice(t api.Term, low, width int) api.Term {
	return api.Term{Kind: api.TermPrimitive, Name: "slice", Value: low, Width: width, Parts: terms(t)}
}

// sized is extend, sextend or bits.
func sized(name string, width int, t api.Term) api.Term {
	return api.Term{Kind: api.TermPrimitive, Name: name, Width: width, Parts: terms(t)}
}

func terms(l ...api.Term) []api.Term { return l }

func anyPattern() api.Pattern { return api.Pattern{Kind: api.PatternAny} }

func pv(name string) api.Pattern { return api.Pattern{Kind: api.PatternName, Name: name} }

func pn(value int) api.Pattern { return api.Pattern{Kind: api.PatternNumber, Value: value} }

func pm(name string, parts ...api.Pattern) api.Pattern {
	return api.Pattern{Kind: api.PatternMake, Name: name, Parts: parts}
}

func tv(name string) api.Type { return api.Type{Kind: api.TypeVar, Name: name} }

func tn(value int) api.Type { return api.Type{Kind: api.TypeNumber, Value: value} }

func tc(name string, parts ...api.Type) api.Type {
	return api.Type{Kind: api.TypeCon, Name: name, Parts: parts}
}

func arrow(a, b api.Type) api.Type { return tc("->", a, b) }

func write(name string, t api.Term) api.Statement {
	return api.Statement{Kind: api.StateWrite, Name: name, Terms: terms(t)}
}

func call(name, other string, l ...api.Term) api.Statement {
	return api.Statement{Kind: api.StateCall, Name: name, Other: other, Terms: l}
}

func when(t api.Term, body, otherwise []api.Statement) api.Statement {
	return api.Statement{Kind: api.StateWhen, Terms: terms(t), Body: body, Else: otherwise}
}

func states(l ...api.Statement) []api.Statement { return l }

// method is one without a value if the type is the open one and the value the name none.
func method(name string, params []api.Field, typ api.Type, ready, value api.Term, body ...api.Statement) api.Statement {
	return api.Statement{Kind: api.StateMethod, Name: name, Params: params, Type: typ, Terms: terms(ready, value), Body: body}
}

// nested is a term in so many lambdas.
func nested(count int, t api.Term) api.Term {
	for range count {
		t = lambda("x", t)
	}
	return t
}

// wide is a term with so many nodes, and the depth 2.
func wide(nodes int) api.Term {
	t := made("F")
	for range nodes - 1 {
		t.Parts = append(t.Parts, v("a"))
	}
	return t
}

// shown is a tree as a string, in which nil and empty slices are alike.
func shown(tree any) string { return fmt.Sprintf("%+v", tree) }

var offsets = regexp.MustCompile(`At:-?[0-9]+`)

// unplaced is a tree as a string without its offsets.
func unplaced(tree any) string { return offsets.ReplaceAllString(shown(tree), "At:") }

// brief is a term with its offsets as a short string, in which each node has brackets of its own.
func brief(t api.Term) string {
	head := ""
	switch t.Kind {
	case api.TermName, api.TermMake:
		head = t.Name
	case api.TermNumber:
		head = fmt.Sprint(t.Value)
	case api.TermBits:
		head = fmt.Sprintf("%d'%d", t.Value, t.Width)
	case api.TermField:
		head = "." + t.Name
	case api.TermPrimitive:
		head = t.Name
		if t.Name == "slice" {
			head += fmt.Sprintf(" %d", t.Value)
		}
		if t.Width != 0 {
			head += fmt.Sprintf(" %d", t.Width)
		}
	default:
		head = []string{"", "", "", "lambda", "apply", "let", "if", "", "case"}[t.Kind]
		if t.Name != "" {
			head += " " + t.Name
		}
	}
	s := fmt.Sprintf("%s@%d", head, t.At)
	for _, part := range t.Parts {
		s += " " + brief(part)
	}
	for _, a := range t.Arms {
		s += " " + briefPattern(a.Pattern) + " " + brief(a.Body)
	}
	return "[" + s + "]"
}

func briefPattern(p api.Pattern) string {
	s := []string{"_", p.Name, p.Name, fmt.Sprint(p.Value)}[p.Kind]
	for _, part := range p.Parts {
		s += " " + briefPattern(part)
	}
	return "<" + s + ">"
}

// eachTerm visits a term and all terms in it.
func eachTerm(t api.Term, visit func(t api.Term)) {
	visit(t)
	for _, part := range t.Parts {
		eachTerm(part, visit)
	}
	for _, a := range t.Arms {
		eachTerm(a.Body, visit)
	}
}

// eachTermIn visits all terms in a statement.
func eachTermIn(s api.Statement, visit func(t api.Term)) {
	for _, t := range s.Terms {
		eachTerm(t, visit)
	}
	for _, list := range [][]api.Statement{s.Body, s.Else} {
		for _, part := range list {
			eachTermIn(part, visit)
		}
	}
}

// ARBITRARY TREES

// dice are numbers that look arbitrary, and are the same in each run.
type dice struct{ state uint32 }

func (d *dice) below(n int) int {
	d.state = d.state*1664525 + 1013904223
	return int(d.state>>8) % n
}

func (d *dice) of(list []string) string { return list[d.below(len(list))] }

var (
	someNames    = strings.Fields("a b c x y none slice x_1 aB9 abcdefghijklmnop")
	someCapitals = strings.Fields("F G None Some Bit M_2 ABCDEFGHIJKLMNOP")
	someNumbers  = []int{0, 1, 7, 10, 16, 999999999}
	binaries     = strings.Fields("|| && == != < <= | ^ & << >> ++ + - *")
)

func (d *dice) name() string    { return d.of(someNames) }
func (d *dice) capital() string { return d.of(someCapitals) }
func (d *dice) number() int     { return someNumbers[d.below(len(someNumbers))] }

// list is up to so many items, at least so many.
func list[T any](d *dice, least, most int, item func() T) []T {
	var l []T
	for range least + d.below(most-least+1) {
		l = append(l, item())
	}
	return l
}

// term is one with at most a depth, without offsets.
func (d *dice) term(depth int) api.Term {
	part := func() api.Term { return d.term(depth - 1) }
	if depth <= 1 || d.below(8) == 0 {
		switch d.below(5) {
		case 0:
			return n(d.number())
		case 1:
			width := 1 + d.below(16)
			return bits(d.below(1<<width), width)
		case 2:
			return made(d.capital())
		}
		return v(d.name())
	}
	switch d.below(16) {
	case 0:
		return lambda(d.name(), part())
	case 1:
		return let(d.name(), part(), part())
	case 2:
		return choice(part(), part(), part())
	case 3:
		return cases(part(), list(d, 1, 3, func() api.Arm { return arm(d.pattern(depth-1), part()) })...)
	case 4, 5, 6:
		return apply(part(), part())
	case 7:
		return made(d.capital(), list(d, 1, 3, part)...)
	case 8:
		return field(part(), d.name())
	case 9:
		return slice(part(), d.number(), d.number())
	case 10:
		return sized(d.of([]string{"extend", "sextend", "bits"}), d.number(), part())
	case 11:
		return op("log", part())
	case 12, 13:
		return op(d.of([]string{"~", "!"}), part())
	}
	return op(d.of(binaries), part(), part())
}

func (d *dice) pattern(depth int) api.Pattern {
	part := func() api.Pattern { return d.pattern(depth - 1) }
	switch d.below(5) {
	case 0:
		return anyPattern()
	case 1:
		return pn(d.number())
	case 2:
		return pv(d.name())
	}
	if depth <= 1 {
		return pm(d.capital())
	}
	return pm(d.capital(), list(d, 0, 3, part)...)
}

func (d *dice) typ(depth int) api.Type {
	part := func() api.Type { return d.typ(depth - 1) }
	if depth <= 1 || d.below(5) == 0 {
		switch d.below(3) {
		case 0:
			return tn(d.number())
		case 1:
			return tc(d.capital())
		}
		return tv(d.name())
	}
	if d.below(3) == 0 {
		return arrow(part(), part())
	}
	return tc(d.capital(), list(d, 0, 3, part)...)
}

func (d *dice) field() api.Field { return api.Field{Name: d.name(), Type: d.typ(2)} }

func (d *dice) statement(depth int) api.Statement {
	s := api.Statement{Kind: d.below(api.StateKinds), Name: d.name()}
	part := func() api.Term { return d.term(3) }
	body := func() []api.Statement {
		if depth <= 1 {
			return nil
		}
		return list(d, 0, 3, func() api.Statement { return d.statement(depth - 1) })
	}
	switch s.Kind {
	case api.StateRegister, api.StateWire:
		s.Type, s.Terms = d.typ(3), terms(part())
	case api.StateInput:
		s.Type = d.typ(3)
	case api.StateOutput, api.StateLet, api.StateWrite:
		s.Terms = terms(part())
	case api.StateInstance:
		s.Other, s.Terms = d.capital(), list(d, 0, 3, part)
	case api.StateCall:
		s.Other, s.Terms = d.name(), list(d, 0, 3, part)
	case api.StateRule:
		s.Terms, s.Body = terms(part()), body()
	case api.StateMethod:
		s.Params, s.Type, s.Terms, s.Body = list(d, 0, 3, d.field), tv("_"), terms(part(), v("none")), body()
		if value := part(); d.below(2) == 0 && value.Name != "none" {
			s.Type, s.Terms[1] = d.typ(3), value
		}
	case api.StateFor:
		s.Terms, s.Body = terms(part(), part()), body()
	case api.StateWhen:
		s.Name, s.Terms, s.Body, s.Else = "", terms(part()), body(), body()
	}
	return s
}

func (d *dice) pack() api.Package {
	data := func() api.Data {
		return api.Data{Name: d.capital(), Params: list(d, 0, 2, d.name), Constructors: list(d, 1, 3, func() api.Constructor {
			return api.Constructor{Name: d.capital(), Fields: list(d, 0, 2, d.field)}
		})}
	}
	function := func() api.Function {
		f := api.Function{Name: d.name(), Type: tv("_"), Term: d.term(3)}
		if d.below(2) == 0 {
			f.Type = d.typ(3)
		}
		return f
	}
	module := func() api.ModuleText {
		return api.ModuleText{Name: d.capital(), Params: list(d, 0, 2, d.name), Body: list(d, 0, 4, func() api.Statement { return d.statement(2) })}
	}
	return api.Package{Name: d.capital(), Imports: list(d, 0, 2, d.capital), Data: list(d, 0, 2, data), Functions: list(d, 0, 2, function), Modules: list(d, 0, 2, module)}
}

// SORTS OF TREES

// sort is what can be done with the trees of one sort, each given as a value of any type.
type sort struct {
	name  string
	parse func(text string) (any, int, api.Errno)
	check func(tree any) api.Errno
	print func(tree any) (string, api.Errno)
	some  func(d *dice) any
}

func sortOf[T any](name string, parse func(string) (T, int, api.Errno), check func(T) api.Errno, print func(T) (string, api.Errno), some func(d *dice) T) sort {
	return sort{
		name,
		func(text string) (any, int, api.Errno) { return parse(text) },
		func(tree any) api.Errno { return check(tree.(T)) },
		func(tree any) (string, api.Errno) { return print(tree.(T)) },
		func(d *dice) any { return some(d) },
	}
}

var sorts = []sort{
	sortOf("package", syntax.ParsePackage, syntax.CheckPackage, syntax.PrintPackage, (*dice).pack),
	sortOf("term", syntax.ParseTerm, syntax.CheckTerm, syntax.PrintTerm, func(d *dice) api.Term { return d.term(1 + d.below(6)) }),
	sortOf("type", syntax.ParseType, syntax.CheckType, syntax.PrintType, func(d *dice) api.Type { return d.typ(1 + d.below(5)) }),
	sortOf("pattern", syntax.ParsePattern, syntax.CheckPattern, syntax.PrintPattern, func(d *dice) api.Pattern { return d.pattern(1 + d.below(4)) }),
	sortOf("statement", syntax.ParseStatement, syntax.CheckStatement, syntax.PrintStatement, func(d *dice) api.Statement { return d.statement(1 + d.below(3)) }),
}

// eachTree visits many arbitrary trees that are not too large, of all sorts, with their canonical texts.
func eachTree(count int, visit func(d *dice, s sort, tree any, text string)) {
	d := &dice{11}
	for i := range count {
		s := sorts[i%len(sorts)]
		tree := s.some(d)
		e := s.check(tree)
		if e == api.ErrLarge {
			continue
		}
		text, f := s.print(tree)
		if e != api.OK || f != api.OK {
			panic(fmt.Sprint(s.name, e, f, shown(tree)))
		}
		visit(d, s, tree, text)
	}
}

// tokensOf is the texts of the tokens of a text.
func tokensOf(text string) []string {
	var l []string
	tokens, _, e := lexer.Tokens(text)
	if e != api.OK {
		panic(text)
	}
	for _, t := range tokens {
		l = append(l, t.Text)
	}
	return l
}
