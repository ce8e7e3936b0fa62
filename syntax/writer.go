package syntax

import (
	"strconv"
	"strings"

	"ratchet/api"
	"ratchet/lexer"
)

// writer knows the levels of primitives.
type writer struct{ primitives map[string]primitive }

func newWriter() writer { return writer{primitives()} }

func (w writer) term(t api.Term) string {
	switch t.Kind {
	case api.TermNumber:
		return strconv.Itoa(t.Value)
	case api.TermBits:
		return literalText(t)
	case api.TermLambda:
		return "\\" + t.Name + " -> " + w.term(t.Parts[0])
	case api.TermApply:
		return w.application(t)
	case api.TermLet:
		return "let " + t.Name + " = " + w.term(t.Parts[0]) + " in " + w.term(t.Parts[1])
	case api.TermIf:
		return "if " + w.term(t.Parts[0]) + " then " + w.term(t.Parts[1]) + " else " + w.term(t.Parts[2])
	case api.TermMake:
		return t.Name + argumentsText(t.Parts, w.term)
	case api.TermCase:
		return "case " + w.term(t.Parts[0]) + " of { " + joined(t.Arms, "; ", w.arm) + " }"
	case api.TermField:
		return w.part(t.Parts[0], postfixLevel) + "." + t.Name
	case api.TermPrimitive:
		return w.primitive(t)
	}
	return t.Name
}

func (w writer) arm(a api.Arm) string { return patternText(a.Pattern) + " -> " + w.term(a.Body) }

// part is the text of a term where the grammar has one of a level.
func (w writer) part(t api.Term, level int) string {
	if w.levelOf(t) < level {
		return "(" + w.term(t) + ")"
	}
	return w.term(t)
}

func (w writer) levelOf(t api.Term) int {
	switch t.Kind {
	case api.TermLambda, api.TermLet, api.TermIf, api.TermCase:
		return termLevel
	case api.TermApply:
		return applicationLevel
	case api.TermField:
		return postfixLevel
	case api.TermPrimitive:
		return w.primitives[t.Name].level
	}
	return simpleLevel
}

func (w writer) primitive(t api.Term) string {
	p := w.primitives[t.Name]
	switch {
	case p.parts == 2:
		return w.operation(t, p.level)
	case p.level == prefixLevel:
		return t.Name + w.part(t.Parts[0], prefixLevel)
	case p.level == postfixLevel:
		return w.part(t.Parts[0], postfixLevel) + "[" + strconv.Itoa(t.Value) + " : " + strconv.Itoa(t.Width) + "]"
	case p.width:
		return t.Name + "(" + strconv.Itoa(t.Width) + ", " + w.term(t.Parts[0]) + ")"
	}
	return t.Name + "(" + w.term(t.Parts[0]) + ")"
}

// operation is the text of an operator with two Parts.
func (w writer) operation(t api.Term, level int) string {
	left := level
	if level == comparisonLevel {
		left++
	}
	return w.part(t.Parts[0], left) + " " + t.Name + " " + w.part(t.Parts[1], level+1)
}

// application is the text of a function with all of its arguments. It is made from its end, as a capital depends on what comes after it.
func (w writer) application(t api.Term) string {
	after := ""
	for ; t.Kind == api.TermApply; t = t.Parts[0] {
		after = " " + w.applied(t.Parts[1], after) + after
	}
	return w.applied(t, after) + after
}

// applied is the text of a function or an argument before the text of further arguments.
func (w writer) applied(t api.Term, after string) string {
	// Without its own parentheses a capital would take those of the next argument.
	if t.Kind == api.TermMake && len(t.Parts) == 0 && strings.HasPrefix(after, " (") {
		return "(" + t.Name + ")"
	}
	return w.part(t, postfixLevel)
}

func literalText(t api.Term) string {
	text, _ := lexer.FormatLiteral(t.Value, t.Width, literalBase)
	return text
}

// argumentsText is the text of what a constructor has, which is nothing if this is none.
func argumentsText[T any](parts []T, textOf func(part T) string) string {
	if len(parts) == 0 {
		return ""
	}
	return "(" + joined(parts, ", ", textOf) + ")"
}

func patternText(p api.Pattern) string {
	switch p.Kind {
	case api.PatternAny:
		return "_"
	case api.PatternNumber:
		return strconv.Itoa(p.Value)
	}
	return p.Name + argumentsText(p.Parts, patternText)
}

func typeText(t api.Type) string {
	switch {
	case t.Kind == api.TypeNumber:
		return strconv.Itoa(t.Value)
	case isArrow(t):
		return leftText(t.Parts[0]) + " " + arrow + " " + typeText(t.Parts[1])
	}
	text := t.Name
	for _, part := range t.Parts {
		text += " " + atomText(part)
	}
	return text
}

func isArrow(t api.Type) bool { return t.Kind == api.TypeCon && t.Name == arrow }

// leftText is the text of a type before an arrow.
func leftText(t api.Type) string { return typeTextIn(t, isArrow(t)) }

// atomText is the text of a type as an argument.
func atomText(t api.Type) string { return typeTextIn(t, len(t.Parts) > 0) }

func typeTextIn(t api.Type, parentheses bool) string {
	if parentheses {
		return "(" + typeText(t) + ")"
	}
	return typeText(t)
}
