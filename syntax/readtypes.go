package syntax

import "ratchet/api"

// typeOf is a type, perhaps one of functions.
func (r *reader) typeOf() api.Type {
	left := r.constructed()
	if !r.accepts(arrow) {
		return left
	}
	return api.Type{Kind: api.TypeCon, Name: arrow, Parts: []api.Type{left, r.typeOf()}}
}

// constructed is a type without an arrow outside of parentheses.
func (r *reader) constructed() api.Type {
	// A capital in parentheses takes no arguments from outside of them.
	takes := r.current().Kind == api.LexerCapital
	t := r.atom()
	for takes && r.beginsAtom() {
		part := r.atom()
		t.Parts = append(t.Parts, part)
	}
	return t
}

func (r *reader) beginsAtom() bool {
	switch t := r.current(); t.Kind {
	case api.LexerName, api.LexerCapital, api.LexerNumber:
		return true
	default:
		return t.Text == "("
	}
}

func (r *reader) atom() api.Type {
	if !r.beginsAtom() {
		panic(r.failure())
	}
	t := r.skip()
	switch t.Kind {
	case api.LexerName:
		return api.Type{Kind: api.TypeVar, Name: t.Text}
	case api.LexerCapital:
		return api.Type{Kind: api.TypeCon, Name: t.Text}
	case api.LexerNumber:
		return api.Type{Kind: api.TypeNumber, Value: t.Value}
	}
	inner := r.typeOf()
	r.expect(")")
	return inner
}

// openOr is the type after a colon, if there is one, otherwise the open one.
func (r *reader) openOr() api.Type {
	if !r.accepts(":") {
		return openType()
	}
	return r.typeOf()
}

func (r *reader) field() api.Field {
	name := r.name()
	r.expect(":")
	return api.Field{Name: name, Type: r.typeOf()}
}

func (r *reader) pattern() api.Pattern {
	if r.accepts("_") {
		return api.Pattern{Kind: api.PatternAny}
	}
	switch r.current().Kind {
	case api.LexerName:
		return api.Pattern{Kind: api.PatternName, Name: r.name()}
	case api.LexerNumber:
		return api.Pattern{Kind: api.PatternNumber, Value: r.number()}
	}
	name := r.capital()
	return api.Pattern{Kind: api.PatternMake, Name: name, Parts: arguments(r, r.pattern)}
}
