package syntax_test

import (
	"slices"
	"testing"

	"ratchet/api"
	"ratchet/syntax"
)

// with is a tree that is changed.
func with[T any](tree T, change func(tree *T)) T {
	change(&tree)
	return tree
}

// someTerms are valid terms of all kinds and sorts of primitives.
func someTerms() []api.Term {
	a := v("a")
	l := []api.Term{
		a, n(5), bits(3, 2), lambda("x", a), apply(a, a), let("x", a, a), choice(a, a, a), made("F"), made("F", a, a), cases(a, arm(pv("x"), a)), field(a, "x"),
		slice(a, 1, 2), sized("extend", 8, a), sized("sextend", 8, a), sized("bits", 8, a), op("log", a), op("~", a), op("!", a),
	}
	for _, name := range binaries {
		l = append(l, op(name, a, a))
	}
	return l
}

// eachSomeTerm visits the valid terms, each with a check of the error after a change.
func eachSomeTerm(t *testing.T, visit func(term api.Term, check func(what string, want api.Errno, change func(x *api.Term)))) {
	for _, term := range someTerms() {
		visit(term, func(what string, want api.Errno, change func(x *api.Term)) {
			t.Helper()
			x := term
			x.Parts, x.Arms = slices.Clone(x.Parts), slices.Clone(x.Arms)
			change(&x)
			if e := syntax.CheckTerm(x); e != want {
				t.Errorf("%s, %s: %d, not %d", brief(term), what, e, want)
			}
		})
	}
}

// P6.2: kinds, places and numbers of parts of terms.
func TestCheckShapesOfTerms(t *testing.T) {
	eachSomeTerm(t, func(term api.Term, check func(what string, want api.Errno, change func(x *api.Term))) {
		check("nothing", api.OK, func(x *api.Term) {})
		check("a place", api.OK, func(x *api.Term) { x.At = 1000000 })
		check("no place", api.ErrRange, func(x *api.Term) { x.At = -1 })
		for _, kind := range []int{-1, api.TermKinds, extremes[0], extremes[len(extremes)-1]} {
			check("no kind", api.ErrKind, func(x *api.Term) { x.Kind, x.Parts, x.Name, x.At = kind, nil, "", -1 })
		}
		parts, arms := api.ErrShape, api.ErrShape
		if term.Kind == api.TermMake {
			parts = api.OK
		}
		if term.Kind == api.TermCase {
			arms = api.OK
			check("no arms", api.ErrShape, func(x *api.Term) { x.Arms = nil })
		}
		check("more parts", parts, func(x *api.Term) { x.Parts = append(x.Parts, v("a")) })
		if len(term.Parts) > 0 {
			check("fewer parts", parts, func(x *api.Term) { x.Parts = x.Parts[1:] })
		}
		check("more arms", arms, func(x *api.Term) { x.Arms = append(x.Arms, arm(anyPattern(), v("a"))) })
	})
}

// P6.2: names of terms, which some kinds have not.
func TestCheckNamesOfTerms(t *testing.T) {
	names := []string{"", "a", "abcdefghijklmnop", "none", "slice2", "F", "ABCDEFGHIJKLMNOP", "_", "in", "a b", "a ", "1", "abcdefghijklmnopq", "ABCDEFGHIJKLMNOPQ", "?", "a//", rep("a", 70000)}
	eachSomeTerm(t, func(term api.Term, check func(what string, want api.Errno, change func(x *api.Term))) {
		good, bad := []string{""}, api.ErrForm
		switch term.Kind {
		case api.TermName, api.TermLambda, api.TermLet, api.TermField:
			good, bad = names[1:5], api.ErrName
		case api.TermMake:
			good, bad = names[5:7], api.ErrName
		case api.TermPrimitive:
			good, bad = nil, api.ErrName
		}
		for _, name := range names {
			want := bad
			if slices.Contains(good, name) {
				want = api.OK
			}
			check("the name "+name[:min(20, len(name))], want, func(x *api.Term) { x.Name = name })
		}
	})
}

// P6.2: numbers of terms, which some kinds have not.
func TestCheckNumbersOfTerms(t *testing.T) {
	of := func(has bool, number int) api.Errno {
		switch {
		case has && (number < 0 || number > 999999999):
			return api.ErrRange
		case !has && number != 0:
			return api.ErrForm
		}
		return api.OK
	}
	eachSomeTerm(t, func(term api.Term, check func(what string, want api.Errno, change func(x *api.Term))) {
		if term.Kind == api.TermBits {
			return
		}
		isSlice := term.Kind == api.TermPrimitive && term.Name == "slice"
		hasWidth := isSlice || slices.Contains([]string{"extend", "sextend", "bits"}, term.Name)
		for _, number := range append([]int{0, 1, 16, 17, 999999999, 1000000000}, extremes...) {
			check("a value", of(isSlice || term.Kind == api.TermNumber, number), func(x *api.Term) { x.Value = number })
			check("a width", of(hasWidth, number), func(x *api.Term) { x.Width = number })
		}
	})
	for width := -1; width <= 18; width++ {
		for _, value := range []int{-1, 0, 1, 2, 3, 4, 255, 256, 65535, 65536} {
			want := api.ErrRange
			if width >= 1 && width <= 16 && value >= 0 && value < 1<<width {
				want = api.OK
			}
			if e := syntax.CheckTerm(bits(value, width)); e != want {
				t.Error(value, width, e)
			}
		}
	}
}

// P6.2: primitives have as many parts as they need, unknown ones any number.
func TestCheckPrimitives(t *testing.T) {
	for name, want := range map[string]int{"~": 1, "!": 1, "slice": 1, "extend": 1, "sextend": 1, "bits": 1, "log": 1} {
		checkCounts(t, name, want)
	}
	for _, name := range binaries {
		checkCounts(t, name, 2)
	}
	for _, name := range []string{"", "?", "->", "=", ".", "_", "F", "a", "let", "slice ", "&&&"} {
		checkCounts(t, name, -1)
	}
}

// checkCounts checks a primitive with 0 to 3 parts, of which so many are right, or none.
func checkCounts(t *testing.T, name string, right int) {
	for count := range 4 {
		want := api.ErrShape
		switch right {
		case count:
			want = api.OK
		case -1:
			want = api.ErrName
		}
		if e := syntax.CheckTerm(op(name, slices.Repeat(terms(v("a")), count)...)); e != want {
			t.Errorf("%q with %d parts: %d, not %d", name, count, e, want)
		}
	}
}

// P6.2: of several errors of a node the first one in the order kind, shape, name, range, form.
func TestCheckOrder(t *testing.T) {
	x := api.Term{Kind: api.TermKinds, At: -1, Name: "F", Value: 1, Parts: terms(v("a"))}
	for _, c := range []struct {
		change func()
		want   api.Errno
	}{
		{func() {}, api.ErrKind},
		{func() { x.Kind = api.TermName }, api.ErrShape},
		{func() { x.Parts, x.Arms = nil, []api.Arm{arm(anyPattern(), v("a"))} }, api.ErrShape},
		{func() { x.Arms = nil }, api.ErrName},
		{func() { x.Name = "a" }, api.ErrRange},
		{func() { x.At = 0 }, api.ErrForm},
		{func() { x.Value = 0 }, api.OK},
	} {
		c.change()
		if e := syntax.CheckTerm(x); e != c.want {
			t.Errorf("%+v: %d, not %d", x, e, c.want)
		}
	}
	y := api.Type{Kind: api.TypeKinds, Name: "F", Value: 1, Parts: []api.Type{tv("")}}
	for _, c := range []struct {
		change func()
		want   api.Errno
	}{
		{func() {}, api.ErrKind},
		{func() { y.Kind = api.TypeVar }, api.ErrShape},
		{func() { y.Parts = nil }, api.ErrName},
		{func() { y.Name = "a" }, api.ErrForm},
		{func() { y.Value = 0 }, api.OK},
		{func() { y.Kind = api.TypeNumber }, api.ErrForm},
		{func() { y.Value = -1 }, api.ErrRange},
		{func() { y.Name = "" }, api.ErrRange},
		{func() { y.Value = 1 }, api.OK},
	} {
		c.change()
		if e := syntax.CheckType(y); e != c.want {
			t.Errorf("%+v: %d, not %d", y, e, c.want)
		}
	}
	s := api.Statement{Kind: api.StateKinds, At: -1, Name: "F", Other: "a", Type: tv("a"), Params: []api.Field{{Name: "F"}}, Terms: terms(x), Body: states(api.Statement{})}
	for _, c := range []struct {
		change func()
		want   api.Errno
	}{
		{func() {}, api.ErrKind},
		{func() { s.Kind = api.StateOutput }, api.ErrShape},
		{func() { s.Terms, s.Params = nil, nil }, api.ErrShape},
		{func() { s.Terms = terms(v("")) }, api.ErrName},
		{func() { s.Name = "a" }, api.ErrRange},
		{func() { s.At = 0 }, api.ErrForm},
		{func() { s.Other = "" }, api.ErrForm},
		{func() { s.Type = api.Type{} }, api.ErrForm},
		{func() { s.Body = nil }, api.ErrName}, // of its term
		{func() { s.Terms[0].Name = "a" }, api.OK},
		{func() { s.Else = states(write("a", n(1))) }, api.ErrForm},
	} {
		c.change()
		if e := syntax.CheckStatement(s); e != c.want {
			t.Errorf("%+v: %d, not %d", s, e, c.want)
		}
	}
}

// P6.2: each node comes before its parts, these in order.
func TestCheckPartsInOrder(t *testing.T) {
	kind, shape, name, wrong, form := api.Term{Kind: -1}, api.Term{Kind: api.TermIf}, v("F"), placed(-1, v("a")), with(v("a"), func(x *api.Term) { x.Value = 1 })
	badPattern := api.Pattern{Kind: -1}
	for _, c := range []struct {
		term api.Term
		want api.Errno
	}{
		{apply(kind, shape), api.ErrKind}, {apply(shape, kind), api.ErrShape}, {apply(v("a"), name), api.ErrName}, {apply(apply(v("a"), wrong), kind), api.ErrRange},
		{placed(-1, apply(kind, kind)), api.ErrRange}, {lambda("x", lambda("F", kind)), api.ErrName}, {choice(v("a"), form, name), api.ErrForm},
		{cases(name, arm(badPattern, shape)), api.ErrName}, {cases(v("a"), arm(badPattern, shape)), api.ErrKind}, {cases(v("a"), arm(anyPattern(), shape), arm(badPattern, kind)), api.ErrShape},
		{cases(v("a"), arm(pm("F", pn(1), pv("F")), kind)), api.ErrName}, {cases(v("a"), arm(anyPattern(), v("a")), arm(anyPattern(), form)), api.ErrForm},
		{made("F", v("a"), made("F", v("a"), wrong)), api.ErrRange},
	} {
		if e := syntax.CheckTerm(c.term); e != c.want {
			t.Errorf("%+v: %d, not %d", c.term, e, c.want)
		}
	}
	badType, params := tc("f"), []api.Field{{Name: "p", Type: tn(-1)}}
	full := method("m", params, badType, kind, v("a"), when(shape, nil, nil))
	for _, c := range []struct {
		change func()
		want   api.Errno
	}{
		{func() {}, api.ErrName},
		{func() { full.Type = tv("a") }, api.ErrRange},
		{func() { full.Params = nil }, api.ErrKind},
		{func() { full.Terms = terms(v("a"), form) }, api.ErrForm},
		{func() { full.Terms[1] = v("a") }, api.ErrShape},
		{func() { full.Body[0].Terms[0] = v("a") }, api.OK},
	} {
		c.change()
		if e := syntax.CheckStatement(full); e != c.want {
			t.Errorf("%+v: %d, not %d", full, e, c.want)
		}
	}
	for _, c := range []struct {
		statement api.Statement
		want      api.Errno
	}{
		{when(v("a"), states(write("a", name)), states(write("a", kind))), api.ErrName},
		{when(v("a"), states(write("a", v("a"))), states(write("a", kind))), api.ErrKind},
		{when(wrong, states(write("F", v("a"))), nil), api.ErrRange},
		{when(v("a"), states(write("a", v("a")), api.Statement{Kind: -1}), nil), api.ErrKind},
	} {
		if e := syntax.CheckStatement(c.statement); e != c.want {
			t.Errorf("%+v: %d, not %d", c.statement, e, c.want)
		}
	}
}

// P6.2
func TestCheckTypesAndPatterns(t *testing.T) {
	for _, c := range []struct {
		typ  api.Type
		want api.Errno
	}{
		{tv("a"), api.OK}, {tv("none"), api.OK}, {tv("_"), api.ErrName}, {tv("F"), api.ErrName}, {tv(""), api.ErrName}, {tv("of"), api.ErrName}, {api.Type{}, api.ErrName},
		{tc("F"), api.OK}, {tc("F", tv("a"), tn(1), tc("G")), api.OK}, {tc("f"), api.ErrName}, {tc(""), api.ErrName}, {tc("=="), api.ErrName}, {tc("F", tv("_")), api.ErrName},
		{arrow(tv("a"), tv("b")), api.OK}, {tc("->"), api.ErrShape}, {tc("->", tv("a")), api.ErrShape}, {tc("->", tv("a"), tv("a"), tv("a")), api.ErrShape}, {tc("->", tv("")), api.ErrShape},
		{tn(0), api.OK}, {tn(999999999), api.OK}, {tn(1000000000), api.ErrRange}, {tn(-1), api.ErrRange},
		{with(tv("a"), func(x *api.Type) { x.Value = 1 }), api.ErrForm}, {with(tc("F"), func(x *api.Type) { x.Value = -1 }), api.ErrForm}, {with(tn(1), func(x *api.Type) { x.Name = "a" }), api.ErrForm},
		{with(tv("a"), func(x *api.Type) { x.Parts = []api.Type{tv("a")} }), api.ErrShape}, {with(tn(1), func(x *api.Type) { x.Parts = []api.Type{tv("a")} }), api.ErrShape},
		{with(tv("a"), func(x *api.Type) { x.Kind = -1 }), api.ErrKind}, {with(tv("a"), func(x *api.Type) { x.Kind = api.TypeKinds }), api.ErrKind},
		{tc("F", tc("F", tc("f"))), api.ErrName}, {tc("F", tn(-1), tc("f")), api.ErrRange}, {tc("F", tc("f"), tn(-1)), api.ErrName},
	} {
		if e := syntax.CheckType(c.typ); e != c.want {
			t.Errorf("%+v: %d, not %d", c.typ, e, c.want)
		}
	}
	for _, c := range []struct {
		pattern api.Pattern
		want    api.Errno
	}{
		{anyPattern(), api.OK}, {api.Pattern{}, api.OK}, {pv("a"), api.OK}, {pv("_"), api.ErrName}, {pv("F"), api.ErrName}, {pv(""), api.ErrName}, {pv("case"), api.ErrName},
		{pm("F"), api.OK}, {pm("F", pv("a"), pv("a")), api.OK}, {pm("f"), api.ErrName}, {pm("->"), api.ErrName}, {pn(0), api.OK}, {pn(999999999), api.OK}, {pn(1000000000), api.ErrRange}, {pn(-1), api.ErrRange},
		{with(anyPattern(), func(x *api.Pattern) { x.Name = "a" }), api.ErrForm}, {with(anyPattern(), func(x *api.Pattern) { x.Value = 1 }), api.ErrForm}, {with(pn(1), func(x *api.Pattern) { x.Name = "a" }), api.ErrForm},
		{with(pv("a"), func(x *api.Pattern) { x.Value = 1 }), api.ErrForm}, {with(pm("F"), func(x *api.Pattern) { x.Value = 1 }), api.ErrForm},
		{with(anyPattern(), func(x *api.Pattern) { x.Parts = []api.Pattern{pn(1)} }), api.ErrShape}, {with(pv("a"), func(x *api.Pattern) { x.Parts = []api.Pattern{pn(1)} }), api.ErrShape},
		{with(pn(1), func(x *api.Pattern) { x.Parts = []api.Pattern{pn(1)} }), api.ErrShape}, {api.Pattern{Kind: -1}, api.ErrKind}, {api.Pattern{Kind: api.PatternKinds}, api.ErrKind},
		{pm("F", pm("G", pn(-1)), pm("f")), api.ErrRange}, {pm("F", pm("f"), pn(-1)), api.ErrName},
	} {
		if e := syntax.CheckPattern(c.pattern); e != c.want {
			t.Errorf("%+v: %d, not %d", c.pattern, e, c.want)
		}
	}
}

// someStatements are valid statements of all kinds.
func someStatements() []api.Statement {
	a, body := v("a"), states(write("b", v("a")))
	return []api.Statement{
		{Kind: api.StateRegister, Name: "r", Type: tv("a"), Terms: terms(a)},
		{Kind: api.StateWire, Name: "r", Type: tv("a"), Terms: terms(a)},
		{Kind: api.StateInput, Name: "r", Type: tv("a")},
		{Kind: api.StateOutput, Name: "r", Terms: terms(a)},
		{Kind: api.StateInstance, Name: "r", Other: "F", Terms: terms(a)},
		{Kind: api.StateRule, Name: "r", Terms: terms(a), Body: body},
		method("r", []api.Field{{Name: "x", Type: tv("a")}}, tv("a"), a, a, body...),
		{Kind: api.StateLet, Name: "r", Terms: terms(a)},
		{Kind: api.StateFor, Name: "r", Terms: terms(a, a), Body: body},
		when(a, body, body),
		write("r", a),
		call("r", "x", a),
	}
}

// P6.2: the errors of a statement itself, each change of a valid one of each kind.
func TestCheckStatements(t *testing.T) {
	for kind, s := range someStatements() {
		check := func(what string, want api.Errno, change func(x *api.Statement)) {
			t.Helper()
			if e := syntax.CheckStatement(with(s, change)); e != want {
				t.Errorf("%d, %s: %d, not %d", kind, what, e, want)
			}
		}
		has := func(kinds ...int) bool { return slices.Contains(kinds, kind) }
		unless := func(fine bool, e api.Errno) api.Errno {
			if fine {
				return api.OK
			}
			return e
		}
		typed := has(api.StateRegister, api.StateWire, api.StateInput, api.StateMethod)
		anyTerms := has(api.StateInstance, api.StateCall)
		check("nothing", api.OK, func(x *api.Statement) {})
		check("a place", api.OK, func(x *api.Statement) { x.At = 1000000 })
		check("no place", api.ErrRange, func(x *api.Statement) { x.At = -1 })
		check("no kind", api.ErrKind, func(x *api.Statement) { x.Kind, x.Name, x.At, x.Terms = api.StateKinds, "", -1, nil })
		check("no kind", api.ErrKind, func(x *api.Statement) { x.Kind = -1 })
		check("no terms", unless(anyTerms || kind == api.StateInput, api.ErrShape), func(x *api.Statement) { x.Terms = nil })
		check("more terms", unless(anyTerms, api.ErrShape), func(x *api.Statement) { x.Terms = append(slices.Clone(x.Terms), v("a")) })
		check("parameters", unless(kind == api.StateMethod, api.ErrShape), func(x *api.Statement) { x.Params = []api.Field{{Name: "y", Type: tv("a")}, {Name: "y", Type: tn(1)}} })
		check("no parameters", api.OK, func(x *api.Statement) { x.Params = nil })
		check("no body", api.OK, func(x *api.Statement) { x.Body, x.Else = nil, nil })
		check("a body", unless(has(api.StateRule, api.StateMethod, api.StateFor, api.StateWhen), api.ErrForm), func(x *api.Statement) { x.Body = states(write("b", v("a"))) })
		check("an else", unless(kind == api.StateWhen, api.ErrForm), func(x *api.Statement) { x.Else = states(write("b", v("a"))) })
		check("a type", unless(typed, api.ErrForm), func(x *api.Statement) { x.Type = tc("Bit", tn(4)) })
		check("no type", unless(!typed, api.ErrName), func(x *api.Statement) { x.Type = api.Type{} })
		check("a wrong type", map[bool]api.Errno{true: api.ErrRange, false: api.ErrForm}[typed], func(x *api.Statement) { x.Type = tn(-1) })
		open := api.ErrName
		if !typed || kind == api.StateMethod {
			open = api.ErrForm
		}
		check("the open type", open, func(x *api.Statement) { x.Type = tv("_") })
		for _, name := range []string{"", "F", "_", "rule", "a b", "abcdefghijklmnopq"} {
			want := api.ErrName
			if kind == api.StateWhen {
				want = unless(name == "", api.ErrForm)
			}
			check("the name "+name, want, func(x *api.Statement) { x.Name = name })
			switch kind {
			case api.StateInstance:
				want = unless(name == "F", api.ErrName)
			case api.StateCall:
				want = api.ErrName
			default:
				want = unless(name == "", api.ErrForm)
			}
			check("the other name "+name, want, func(x *api.Statement) { x.Other = name })
			if kind == api.StateMethod {
				check("a parameter "+name, api.ErrName, func(x *api.Statement) {
					x.Params = []api.Field{{Name: "a", Type: tv("a")}, {Name: name, Type: tv("a")}}
				})
			}
		}
		check("the name none", unless(kind != api.StateWhen, api.ErrForm), func(x *api.Statement) { x.Name = "none" })
	}
}

// P6.2: a method has no value exactly if its type is the open one.
func TestCheckMethods(t *testing.T) {
	a := v("a")
	for i, c := range []struct {
		typ   api.Type
		value api.Term
		want  api.Errno
	}{
		{tv("_"), v("none"), api.OK}, {tv("a"), a, api.OK}, {tv("_"), a, api.ErrForm}, {tv("a"), v("none"), api.ErrForm}, {tc("F"), v("none"), api.ErrForm},
		{tv("_"), placed(7, v("none")), api.OK}, {tv("_"), placed(-1, v("none")), api.ErrRange}, {tv("a"), op("~", v("none")), api.OK}, {tv("_"), lambda("none", v("none")), api.ErrForm},
		{tv("a"), made("None"), api.OK}, {tv("_"), made("None"), api.ErrForm}, {tv("none"), a, api.OK}, {tc("F", tv("_")), a, api.ErrName},
		{tv("_"), with(v("none"), func(x *api.Term) { x.Value = 1 }), api.ErrForm}, {with(tv("_"), func(x *api.Type) { x.Value = 1 }), v("none"), api.ErrForm},
	} {
		if e := syntax.CheckStatement(method("m", nil, c.typ, a, c.value)); e != c.want {
			t.Errorf("case %d: %d, not %d", i, e, c.want)
		}
		if e := syntax.CheckStatement(when(a, nil, states(method("m", nil, c.typ, a, c.value)))); e != c.want {
			t.Errorf("case %d within: %d, not %d", i, e, c.want)
		}
	}
	// The method itself comes before its type and its terms; its own other errors come before this one.
	if e := syntax.CheckStatement(method("m", nil, tn(-1), v("F"), v("none"))); e != api.ErrForm {
		t.Error(e)
	}
	if e := syntax.CheckStatement(method("F", nil, tv("a"), a, v("none"))); e != api.ErrName {
		t.Error(e)
	}
	if e := syntax.CheckStatement(movedTo(-1, method("m", nil, tv("a"), a, v("none")))); e != api.ErrRange {
		t.Error(e)
	}
	if e := syntax.CheckStatement(api.Statement{Kind: api.StateMethod, Name: "m", Type: tv("_")}); e != api.ErrShape {
		t.Error(e)
	}
	if e := syntax.CheckStatement(method("m", []api.Field{{Name: "a", Type: tv("_")}}, tv("_"), a, v("none"))); e != api.ErrName {
		t.Error(e)
	}
	if e := syntax.CheckStatement(api.Statement{Kind: api.StateInput, Name: "m", Type: tv("_")}); e != api.ErrName {
		t.Error(e)
	}
}

func movedTo(at int, s api.Statement) api.Statement {
	s.At = at
	return s
}

// P6.2: the limits of trees, before all other errors.
func TestCheckLimits(t *testing.T) {
	wideType := func(nodes int) api.Type { return tc("F", slices.Repeat([]api.Type{tv("a")}, nodes-1)...) }
	deepType := func(depth int) api.Type {
		x := tv("a")
		for range depth - 1 {
			x = tc("F", x)
		}
		return x
	}
	widePattern := func(nodes int) api.Pattern { return pm("F", slices.Repeat([]api.Pattern{anyPattern()}, nodes-1)...) }
	deepPattern := func(depth int) api.Pattern {
		x := anyPattern()
		for range depth - 1 {
			x = pm("F", x)
		}
		return x
	}
	deepStatement := func(depth int) api.Statement {
		s := call("a", "b")
		for range depth - 1 {
			s = when(v("a"), nil, states(s))
		}
		return s
	}
	for i, c := range []struct{ got, want api.Errno }{
		{syntax.CheckTerm(wide(200)), api.OK}, {syntax.CheckTerm(wide(201)), api.ErrLarge}, {syntax.CheckTerm(nested(39, v("a"))), api.OK}, {syntax.CheckTerm(nested(40, v("a"))), api.ErrLarge},
		{syntax.CheckTerm(cases(v("a"), slices.Repeat([]api.Arm{arm(anyPattern(), v("a"))}, 99)...)), api.OK}, {syntax.CheckTerm(cases(v("a"), slices.Repeat([]api.Arm{arm(anyPattern(), v("a"))}, 100)...)), api.ErrLarge},
		{syntax.CheckTerm(cases(v("a"), arm(deepPattern(39), v("a")))), api.OK}, {syntax.CheckTerm(cases(v("a"), arm(deepPattern(40), v("a")))), api.ErrLarge},
		{syntax.CheckTerm(cases(v("a"), arm(widePattern(197), v("a")))), api.OK}, {syntax.CheckTerm(cases(v("a"), arm(widePattern(198), v("a")))), api.ErrLarge},
		{syntax.CheckTerm(cases(v("a"), arm(anyPattern(), nested(38, v("a"))))), api.OK}, {syntax.CheckTerm(cases(v("a"), arm(anyPattern(), nested(39, v("a"))))), api.ErrLarge},
		{syntax.CheckTerm(with(wide(201), func(x *api.Term) { x.Kind = -1 })), api.ErrLarge}, {syntax.CheckTerm(lambda("F", nested(40, v("")))), api.ErrLarge},
		{syntax.CheckTerm(with(wide(200), func(x *api.Term) { x.Kind = api.TermName })), api.ErrShape}, {syntax.CheckTerm(with(wide(201), func(x *api.Term) { x.Kind = api.TermName })), api.ErrLarge},
		{syntax.CheckType(wideType(200)), api.OK}, {syntax.CheckType(wideType(201)), api.ErrLarge}, {syntax.CheckType(deepType(40)), api.OK}, {syntax.CheckType(deepType(41)), api.ErrLarge},
		{syntax.CheckPattern(widePattern(200)), api.OK}, {syntax.CheckPattern(widePattern(201)), api.ErrLarge}, {syntax.CheckPattern(deepPattern(40)), api.OK}, {syntax.CheckPattern(deepPattern(41)), api.ErrLarge},
		{syntax.CheckStatement(deepStatement(40)), api.OK}, {syntax.CheckStatement(deepStatement(41)), api.ErrLarge},
		{syntax.CheckStatement(write("a", wide(199))), api.OK}, {syntax.CheckStatement(write("a", wide(200))), api.ErrLarge}, {syntax.CheckStatement(write("a", nested(38, v("a")))), api.OK}, {syntax.CheckStatement(write("a", nested(39, v("a")))), api.ErrLarge},
		{syntax.CheckStatement(when(v("a"), slices.Repeat(states(call("a", "b")), 100), slices.Repeat(states(call("a", "b")), 98))), api.OK},
		{syntax.CheckStatement(when(v("a"), slices.Repeat(states(call("a", "b")), 100), slices.Repeat(states(call("a", "b")), 99))), api.ErrLarge},
		{syntax.CheckStatement(api.Statement{Kind: api.StateInput, Name: "a", Type: wideType(199)}), api.OK}, {syntax.CheckStatement(api.Statement{Kind: api.StateInput, Name: "a", Type: wideType(200)}), api.ErrLarge},
		{syntax.CheckStatement(api.Statement{Kind: api.StateInput, Name: "a", Type: deepType(39)}), api.OK}, {syntax.CheckStatement(api.Statement{Kind: api.StateInput, Name: "a", Type: deepType(40)}), api.ErrLarge},
		{syntax.CheckStatement(method("m", slices.Repeat([]api.Field{{Name: "a", Type: tv("a")}}, 196), tv("_"), v("a"), v("none"))), api.OK},
		{syntax.CheckStatement(method("m", slices.Repeat([]api.Field{{Name: "a", Type: tv("a")}}, 197), tv("_"), v("a"), v("none"))), api.ErrLarge},
		{syntax.CheckStatement(method("m", []api.Field{{Name: "a", Type: deepType(39)}}, tv("_"), v("a"), v("none"))), api.OK}, {syntax.CheckStatement(method("m", []api.Field{{Name: "a", Type: deepType(40)}}, tv("_"), v("a"), v("none"))), api.ErrLarge},
		{syntax.CheckStatement(with(deepStatement(41), func(x *api.Statement) { x.Kind = -1 })), api.ErrLarge},
	} {
		if c.got != c.want {
			t.Errorf("case %d: %d, not %d", i, c.got, c.want)
		}
	}
}

// P6.2: what is wrong in a package, in the order in which it is looked for.
func TestCheckPackages(t *testing.T) {
	ok := func() api.Package {
		return api.Package{
			Name:      "P",
			Imports:   []string{"Q", "R"},
			Data:      []api.Data{{Name: "T", Params: []string{"a", "b"}, Constructors: []api.Constructor{{Name: "U", Fields: []api.Field{{Name: "x", Type: tv("a")}}}, {Name: "V"}}}, {Name: "W", Constructors: []api.Constructor{{Name: "W"}}}},
			Functions: []api.Function{{Name: "f", Type: tv("_"), Term: n(1)}, {Name: "g", Type: tv("a"), Term: n(2)}},
			Modules:   []api.ModuleText{{Name: "M", Params: []string{"n", "m"}, Body: someStatements()}, {Name: "N"}},
		}
	}
	if e := syntax.CheckPackage(ok()); e != api.OK {
		t.Fatal(e)
	}
	names := func(count int, name string) []string { return slices.Repeat([]string{name}, count) }
	// Each change is made beside all that come after it in the list: its own error is the first one.
	changes := []struct {
		change func(p *api.Package)
		want   api.Errno
	}{
		{func(p *api.Package) { p.Name = "p" }, api.ErrName},
		{func(p *api.Package) {
			p.Modules = append(p.Modules, slices.Repeat([]api.ModuleText{{Name: "M"}}, 39)...)
		}, api.ErrLarge},
		{func(p *api.Package) { p.Imports[1] = "q" }, api.ErrName},
		{func(p *api.Package) { p.Data[0].Params = names(41, "a") }, api.ErrLarge},
		{func(p *api.Package) { p.Data[0].Params[1] = "A" }, api.ErrName},
		{func(p *api.Package) { p.Data[0].Constructors[0].Fields[0].Type = tn(-1) }, api.ErrRange},
		{func(p *api.Package) { p.Data[0].Constructors[1].Name = "v" }, api.ErrName},
		{func(p *api.Package) { p.Data[1].Constructors = nil }, api.ErrShape},
		{func(p *api.Package) { p.Functions[0].Name = "F" }, api.ErrName},
		{func(p *api.Package) { p.Functions[0].Term = api.Term{Kind: -1} }, api.ErrKind},
		{func(p *api.Package) { p.Functions[1].Type = tn(-1) }, api.ErrRange},
		{func(p *api.Package) {
			p.Functions[1].Term = choice(v("a"), v("a"), v("a")).Parts[0]
			p.Functions[1].Term.Value = 1
		}, api.ErrForm},
		{func(p *api.Package) { p.Modules[0].Params[0] = "" }, api.ErrName},
		{func(p *api.Package) { p.Modules[0].Body[3].Terms = nil }, api.ErrShape},
		{func(p *api.Package) { p.Modules[0].Body[11].Terms[0].At = -1 }, api.ErrRange},
		{func(p *api.Package) { p.Modules[1].Name = "n" }, api.ErrName},
	}
	for i, c := range changes {
		alone, all := ok(), ok()
		c.change(&alone)
		for j := len(changes) - 1; j >= i; j-- {
			changes[j].change(&all)
		}
		if e := syntax.CheckPackage(alone); e != c.want {
			t.Errorf("change %d alone: %d, not %d", i, e, c.want)
		}
		if e := syntax.CheckPackage(all); e != c.want {
			t.Errorf("change %d and all after it: %d, not %d", i, e, c.want)
		}
	}
}

// P6.2: the limits and the further errors of packages.
func TestCheckPackageLimits(t *testing.T) {
	p := func(change func(p *api.Package)) api.Errno {
		return syntax.CheckPackage(with(api.Package{Name: "P"}, change))
	}
	data := func(d api.Data) api.Errno { return p(func(p *api.Package) { p.Data = []api.Data{d} }) }
	made := func(c api.Constructor) api.Errno {
		return data(api.Data{Name: "T", Constructors: []api.Constructor{c}})
	}
	function := func(f api.Function) api.Errno { return p(func(p *api.Package) { p.Functions = []api.Function{f} }) }
	module := func(m api.ModuleText) api.Errno { return p(func(p *api.Package) { p.Modules = []api.ModuleText{m} }) }
	U := api.Constructor{Name: "U"}
	fields := func(count int) []api.Field { return slices.Repeat([]api.Field{{Name: "x", Type: tv("a")}}, count) }
	for i, c := range []struct{ got, want api.Errno }{
		{p(func(p *api.Package) {}), api.OK}, {p(func(p *api.Package) { p.Name = "" }), api.ErrName}, {p(func(p *api.Package) { p.Name = "ABCDEFGHIJKLMNOPQ" }), api.ErrName},
		{p(func(p *api.Package) { p.Imports = slices.Repeat([]string{"Q"}, 40) }), api.OK}, {p(func(p *api.Package) { p.Imports = slices.Repeat([]string{"q"}, 41) }), api.ErrLarge},
		{p(func(p *api.Package) {
			p.Data = slices.Repeat([]api.Data{{Name: "T", Constructors: []api.Constructor{U}}}, 40)
		}), api.OK}, {p(func(p *api.Package) { p.Data = make([]api.Data, 41) }), api.ErrLarge},
		{p(func(p *api.Package) {
			p.Functions = slices.Repeat([]api.Function{{Name: "f", Type: tv("_"), Term: n(1)}}, 40)
		}), api.OK}, {p(func(p *api.Package) { p.Functions = make([]api.Function, 41) }), api.ErrLarge},
		{p(func(p *api.Package) { p.Modules = slices.Repeat([]api.ModuleText{{Name: "M"}}, 40) }), api.OK}, {p(func(p *api.Package) { p.Modules = make([]api.ModuleText, 41) }), api.ErrLarge},
		{data(api.Data{Name: "T", Constructors: slices.Repeat([]api.Constructor{U}, 40)}), api.OK}, {data(api.Data{Name: "T", Constructors: make([]api.Constructor, 41)}), api.ErrLarge},
		{data(api.Data{Name: "T", Params: slices.Repeat([]string{"a"}, 40), Constructors: []api.Constructor{U}}), api.OK}, {data(api.Data{Name: "T", Params: make([]string, 41)}), api.ErrLarge},
		{data(api.Data{Name: "t", Params: make([]string, 41)}), api.ErrName}, {data(api.Data{Name: "T", Params: []string{""}}), api.ErrShape}, {data(api.Data{Name: "T", Params: []string{"A"}, Constructors: []api.Constructor{{}}}), api.ErrName},
		{made(api.Constructor{Name: "U", Fields: fields(40)}), api.OK}, {made(api.Constructor{Name: "U", Fields: make([]api.Field, 41)}), api.ErrLarge}, {made(api.Constructor{Name: "u", Fields: make([]api.Field, 41)}), api.ErrName},
		{made(api.Constructor{Name: "U", Fields: []api.Field{{Name: "X", Type: tn(-1)}}}), api.ErrName}, {made(api.Constructor{Name: "U", Fields: []api.Field{{Name: "x", Type: tn(-1)}}}), api.ErrRange},
		{made(api.Constructor{Name: "U", Fields: []api.Field{{Name: "x", Type: tv("_")}}}), api.ErrName}, {made(api.Constructor{Name: "U", Fields: []api.Field{{Name: "x", Type: api.Type{}}}}), api.ErrName},
		{function(api.Function{Name: "f", Type: tv("_"), Term: wide(200)}), api.OK}, {function(api.Function{Name: "f", Type: tv("_"), Term: wide(201)}), api.ErrLarge},
		{function(api.Function{Name: "f", Type: arrow(tv("_"), tv("a")), Term: n(1)}), api.ErrName}, {function(api.Function{Name: "f", Term: n(1)}), api.ErrName},
		{function(api.Function{Name: "f", Type: with(tv("_"), func(x *api.Type) { x.Parts = []api.Type{tv("a")} }), Term: n(1)}), api.ErrShape},
		{function(api.Function{Name: "f", Type: with(tv("_"), func(x *api.Type) { x.Value = 1 }), Term: n(1)}), api.ErrName},
		{function(api.Function{Name: "f", Type: tn(-1), Term: v("F")}), api.ErrRange}, {function(api.Function{Name: "in", Type: tn(-1), Term: v("F")}), api.ErrName},
		{module(api.ModuleText{Name: "M", Params: slices.Repeat([]string{"a"}, 40), Body: slices.Repeat(states(call("a", "b")), 40)}), api.OK},
		{module(api.ModuleText{Name: "M", Body: make([]api.Statement, 41)}), api.ErrLarge}, {module(api.ModuleText{Name: "M", Params: make([]string, 41)}), api.ErrLarge},
		{module(api.ModuleText{Name: "m", Params: make([]string, 41)}), api.ErrName}, {module(api.ModuleText{Name: "M", Params: []string{"_"}, Body: make([]api.Statement, 1)}), api.ErrName},
		{module(api.ModuleText{Name: "M", Body: states(write("a", wide(200)))}), api.ErrLarge}, {module(api.ModuleText{Name: "M", Body: states(write("a", wide(199)), write("a", wide(199)))}), api.OK},
	} {
		if c.got != c.want {
			t.Errorf("case %d: %d, not %d", i, c.got, c.want)
		}
	}
}
