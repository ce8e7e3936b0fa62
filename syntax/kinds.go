package syntax

import (
	"strings"

	"ratchet/api"
)

const (
	arrow    = "->"
	openName = "_"
	noName   = "none"
)

// The levels of the grammar that have a part of their own to play.
const (
	termLevel        = 0 // of terms that stand in parentheses wherever a level stands
	comparisonLevel  = 3
	prefixLevel      = 11
	applicationLevel = 12
	postfixLevel     = 13
	simpleLevel      = 14
)

// operators are those of the levels from 1 on, which have two Parts.
var operators = [prefixLevel - 1]string{"||", "&&", "== != < <=", "|", "^", "&", "<< >>", "++", "+ -", "*"}

// primitive is the level on which a primitive stands, and what its terms have.
type primitive struct {
	level, parts int
	value, width bool
}

func primitives() map[string]primitive {
	known := map[string]primitive{
		"~":       {level: prefixLevel, parts: 1},
		"!":       {level: prefixLevel, parts: 1},
		"slice":   {level: postfixLevel, parts: 1, value: true, width: true},
		"extend":  {level: simpleLevel, parts: 1, width: true},
		"sextend": {level: simpleLevel, parts: 1, width: true},
		"bits":    {level: simpleLevel, parts: 1, width: true},
		"log":     {level: simpleLevel, parts: 1},
	}
	for i, signs := range operators {
		for _, sign := range strings.Fields(signs) {
			known[sign] = primitive{level: i + 1, parts: 2}
		}
	}
	return known
}

// anyNumber is how many parts there are where this is not fixed.
const anyNumber = -1

// nameCheck says whether a string is a name of a sort.
type nameCheck func(c *checker, s string) bool

// nodeKind is what types, patterns or terms of a kind have.
type nodeKind struct {
	name                  nameCheck // nil if they have none
	parts                 int
	value, width, literal bool
}

func typeKinds() [api.TypeKinds]nodeKind {
	return [api.TypeKinds]nodeKind{
		api.TypeVar:    {name: (*checker).isName},
		api.TypeCon:    {name: (*checker).isTypeConstructor, parts: anyNumber},
		api.TypeNumber: {value: true},
	}
}

func patternKinds() [api.PatternKinds]nodeKind {
	return [api.PatternKinds]nodeKind{
		api.PatternAny:    {},
		api.PatternName:   {name: (*checker).isName},
		api.PatternMake:   {name: (*checker).isCapital, parts: anyNumber},
		api.PatternNumber: {value: true},
	}
}

func termKinds() [api.TermKinds]nodeKind {
	return [api.TermKinds]nodeKind{
		api.TermName:      {name: (*checker).isName},
		api.TermNumber:    {value: true},
		api.TermBits:      {value: true, width: true, literal: true},
		api.TermLambda:    {name: (*checker).isName, parts: 1},
		api.TermApply:     {parts: 2},
		api.TermLet:       {name: (*checker).isName, parts: 2},
		api.TermIf:        {parts: 3},
		api.TermMake:      {name: (*checker).isCapital, parts: anyNumber},
		api.TermCase:      {parts: 1},
		api.TermField:     {name: (*checker).isName, parts: 1},
		api.TermPrimitive: {name: (*checker).isPrimitive, parts: anyNumber},
	}
}

// statementKind is what statements of a kind have.
type statementKind struct {
	name, other                    nameCheck // nil if they have none
	terms                          int
	typed, params, body, otherwise bool
}

func statementKinds() [api.StateKinds]statementKind {
	return [api.StateKinds]statementKind{
		api.StateRegister: {name: (*checker).isName, typed: true, terms: 1},
		api.StateWire:     {name: (*checker).isName, typed: true, terms: 1},
		api.StateInput:    {name: (*checker).isName, typed: true},
		api.StateOutput:   {name: (*checker).isName, terms: 1},
		api.StateInstance: {name: (*checker).isName, other: (*checker).isCapital, terms: anyNumber},
		api.StateRule:     {name: (*checker).isName, terms: 1, body: true},
		api.StateMethod:   {name: (*checker).isName, params: true, typed: true, terms: 2, body: true},
		api.StateLet:      {name: (*checker).isName, terms: 1},
		api.StateFor:      {name: (*checker).isName, terms: 2, body: true},
		api.StateWhen:     {terms: 1, body: true, otherwise: true},
		api.StateWrite:    {name: (*checker).isName, terms: 1},
		api.StateCall:     {name: (*checker).isName, other: (*checker).isName, terms: anyNumber},
	}
}

// openType is the type of what has none.
func openType() api.Type { return api.Type{Kind: api.TypeVar, Name: openName} }

// isOpen says whether a type is the open one, and nothing more.
func isOpen(t api.Type) bool {
	return t.Kind == api.TypeVar && t.Name == openName && t.Value == 0 && len(t.Parts) == 0
}

// noTerm is the value of a method without one.
func noTerm() api.Term { return api.Term{Kind: api.TermName, Name: noName} }

func isNone(t api.Term) bool { return t.Kind == api.TermName && t.Name == noName }
