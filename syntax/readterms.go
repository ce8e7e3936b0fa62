package syntax

import "ratchet/api"

func (r *reader) term() api.Term {
	at := r.current().At
	switch {
	case r.accepts("\\"):
		return r.lambda(at)
	case r.accepts("let"):
		return r.let(at)
	case r.accepts("if"):
		return r.choice(at)
	case r.accepts("case"):
		return r.distinction(at)
	}
	return r.level(1)
}

// lambda is a function, after "\\".
func (r *reader) lambda(at int) api.Term {
	name := r.name()
	r.expect("->")
	return api.Term{Kind: api.TermLambda, At: at, Name: name, Parts: []api.Term{r.term()}}
}

// let is a term with a name for another one, after "let".
func (r *reader) let(at int) api.Term {
	name := r.name()
	r.expect("=")
	meaning := r.term()
	r.expect("in")
	return api.Term{Kind: api.TermLet, At: at, Name: name, Parts: []api.Term{meaning, r.term()}}
}

// choice is a term of three, after "if".
func (r *reader) choice(at int) api.Term {
	condition := r.term()
	r.expect("then")
	yes := r.term()
	r.expect("else")
	return api.Term{Kind: api.TermIf, At: at, Parts: []api.Term{condition, yes, r.term()}}
}

// distinction is a term with arms, after "case".
func (r *reader) distinction(at int) api.Term {
	what := r.term()
	r.expect("of")
	r.expect("{")
	arms := separated(r, ";", r.arm)
	r.expect("}")
	return api.Term{Kind: api.TermCase, At: at, Parts: []api.Term{what}, Arms: arms}
}

func (r *reader) arm() api.Arm {
	pattern := r.pattern()
	r.expect("->")
	return api.Arm{Pattern: pattern, Body: r.term()}
}

// level is a term of one of the levels from 1 to prefixLevel.
func (r *reader) level(level int) api.Term {
	if level == prefixLevel {
		return r.prefixed()
	}
	left := r.level(level + 1)
	for r.primitives[r.current().Text].level == level {
		sign := r.skip().Text
		right := r.level(level + 1)
		left = api.Term{Kind: api.TermPrimitive, At: left.At, Name: sign, Parts: []api.Term{left, right}}
		if level == comparisonLevel {
			break
		}
	}
	return left
}

func (r *reader) prefixed() api.Term {
	if r.primitives[r.current().Text].level != prefixLevel {
		return r.application()
	}
	sign := r.skip()
	return api.Term{Kind: api.TermPrimitive, At: sign.At, Name: sign.Text, Parts: []api.Term{r.prefixed()}}
}

func (r *reader) application() api.Term {
	left := r.postfixed()
	for r.beginsSimple() {
		right := r.postfixed()
		left = api.Term{Kind: api.TermApply, At: left.At, Parts: []api.Term{left, right}}
	}
	return left
}

func (r *reader) postfixed() api.Term {
	part := r.simple()
	for {
		switch {
		case r.accepts("."):
			part = api.Term{Kind: api.TermField, At: part.At, Name: r.name(), Parts: []api.Term{part}}
		case r.accepts("["):
			part = r.slice(part)
		default:
			return part
		}
	}
}

// slice is the slice of a term, after "[".
func (r *reader) slice(part api.Term) api.Term {
	low := r.number()
	r.expect(":")
	width := r.number()
	r.expect("]")
	return api.Term{Kind: api.TermPrimitive, At: part.At, Name: "slice", Value: low, Width: width, Parts: []api.Term{part}}
}

// beginsSimple says whether a term that needs no parentheses anywhere, or one in parentheses, is next.
func (r *reader) beginsSimple() bool {
	switch t := r.current(); t.Kind {
	case api.LexerName, api.LexerCapital, api.LexerNumber, api.LexerLiteral:
		return true
	case api.LexerKeyword:
		return r.primitives[t.Text].level == simpleLevel
	default:
		return t.Text == "("
	}
}

func (r *reader) simple() api.Term {
	if !r.beginsSimple() {
		panic(r.failure())
	}
	t := r.skip()
	switch t.Kind {
	case api.LexerName:
		return api.Term{Kind: api.TermName, At: t.At, Name: t.Text}
	case api.LexerCapital:
		return api.Term{Kind: api.TermMake, At: t.At, Name: t.Text, Parts: arguments(r, r.term)}
	case api.LexerNumber:
		return api.Term{Kind: api.TermNumber, At: t.At, Value: t.Value}
	case api.LexerLiteral:
		return api.Term{Kind: api.TermBits, At: t.At, Value: t.Value, Width: t.Width}
	case api.LexerKeyword:
		return r.called(t)
	}
	inner := r.term()
	r.expect(")")
	return inner
}

// called is the primitive whose keyword was read.
func (r *reader) called(keyword api.LexerToken) api.Term {
	r.expect("(")
	width := 0
	if r.primitives[keyword.Text].width {
		width = r.number()
		r.expect(",")
	}
	part := r.term()
	r.expect(")")
	return api.Term{Kind: api.TermPrimitive, At: keyword.At, Name: keyword.Text, Width: width, Parts: []api.Term{part}}
}
