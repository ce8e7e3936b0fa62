package syntax

import (
	"ratchet/api"
	"ratchet/lexer"
)

const (
	maxNumber   = 999999999 // the greatest number of api.MaxLexerDigits digits
	literalBase = 'd'       // the sign of the base in which literals are written
)

// checker is what is known of words, and of what belongs to kinds.
type checker struct {
	words      map[api.LexerToken]bool // whether the text of such a token is one
	primitives map[string]primitive
	types      [api.TypeKinds]nodeKind
	patterns   [api.PatternKinds]nodeKind
	terms      [api.TermKinds]nodeKind
	statements [api.StateKinds]statementKind
}

func newChecker() *checker {
	return &checker{map[api.LexerToken]bool{}, primitives(), typeKinds(), patternKinds(), termKinds(), statementKinds()}
}

// isWord says whether a string is the text of a token of a kind.
func (c *checker) isWord(kind int, s string) bool {
	token := api.LexerToken{Kind: kind, Text: s}
	is, known := c.words[token]
	if !known {
		is = lexer.CheckToken(token) == api.OK
		c.words[token] = is
	}
	return is
}

func (c *checker) isName(s string) bool { return c.isWord(api.LexerName, s) }

func (c *checker) isCapital(s string) bool { return c.isWord(api.LexerCapital, s) }

func (c *checker) isTypeConstructor(s string) bool { return s == arrow || c.isCapital(s) }

func (c *checker) isPrimitive(s string) bool {
	_, known := c.primitives[s]
	return known
}

// plain is what types, patterns and terms have apart from other trees.
type plain struct {
	name                    string
	parts, value, width, at int
}

// errorOfPlain is the error of a type, a pattern or a term without its parts, by what its kind has.
func (c *checker) errorOfPlain(has nodeKind, n plain) api.Errno {
	switch {
	case has.parts != anyNumber && n.parts != has.parts:
		return api.ErrShape
	case has.name != nil && !has.name(c, n.name):
		return api.ErrName
	case n.at < 0, has.value && !isNumber(n.value), has.width && !isNumber(n.width), has.literal && !isLiteral(n.value, n.width):
		return api.ErrRange
	case has.name == nil && n.name != "", !has.value && n.value != 0, !has.width && n.width != 0:
		return api.ErrForm
	}
	return api.OK
}

func (c *checker) errorOfType(t api.Type) api.Errno {
	if !isIndex(t.Kind, api.TypeKinds) {
		return api.ErrKind
	}
	has := c.types[t.Kind]
	if t.Kind == api.TypeCon && t.Name == arrow {
		has.parts = 2
	}
	return c.errorOfPlain(has, plain{name: t.Name, parts: len(t.Parts), value: t.Value})
}

func (c *checker) errorOfPattern(p api.Pattern) api.Errno {
	if !isIndex(p.Kind, api.PatternKinds) {
		return api.ErrKind
	}
	return c.errorOfPlain(c.patterns[p.Kind], plain{name: p.Name, parts: len(p.Parts), value: p.Value})
}

func (c *checker) errorOfTerm(t api.Term) api.Errno {
	if !isIndex(t.Kind, api.TermKinds) {
		return api.ErrKind
	}
	if (t.Kind == api.TermCase) != (len(t.Arms) > 0) {
		return api.ErrShape
	}
	has := c.terms[t.Kind]
	if p, known := c.primitives[t.Name]; known && t.Kind == api.TermPrimitive {
		has.parts, has.value, has.width = p.parts, p.value, p.width
	}
	return c.errorOfPlain(has, plain{t.Name, len(t.Parts), t.Value, t.Width, t.At})
}

func (c *checker) errorOfStatement(s api.Statement) api.Errno {
	if !isIndex(s.Kind, api.StateKinds) {
		return api.ErrKind
	}
	has := c.statements[s.Kind]
	switch {
	case has.terms != anyNumber && len(s.Terms) != has.terms || !has.params && len(s.Params) > 0:
		return api.ErrShape
	case !c.isNamed(has, s):
		return api.ErrName
	case s.At < 0:
		return api.ErrRange
	case !isFormed(has, s):
		return api.ErrForm
	}
	return api.OK
}

// isNamed says whether all names that a statement must have are such ones.
func (c *checker) isNamed(has statementKind, s api.Statement) bool {
	for _, p := range s.Params {
		if !c.isName(p.Name) {
			return false
		}
	}
	return (has.name == nil || has.name(c, s.Name)) && (has.other == nil || has.other(c, s.Other))
}

// isFormed says whether a statement has nothing that its kind has not, and a method a type exactly if it has a value.
func isFormed(has statementKind, s api.Statement) bool {
	switch {
	case has.name == nil && s.Name != "", has.other == nil && s.Other != "":
		return false
	case !has.typed && !isZero(s.Type), !has.body && len(s.Body) > 0, !has.otherwise && len(s.Else) > 0:
		return false
	}
	return s.Kind != api.StateMethod || isNone(s.Terms[1]) == isOpen(s.Type)
}

func isZero(t api.Type) bool {
	return t.Kind == 0 && t.Value == 0 && t.Name == "" && len(t.Parts) == 0
}

func isNumber(n int) bool { return n >= 0 && n <= maxNumber }

func isLiteral(value, width int) bool {
	_, e := lexer.FormatLiteral(value, width, literalBase)
	return e == api.OK
}

func isIndex(i, count int) bool { return i >= 0 && i < count }
