package syntax

import (
	"maps"
	"slices"
	"strings"

	"ratchet/api"
)

// FreeIn returns the free names of a term, ascending.
func FreeIn(t api.Term) ([]string, api.Errno) {
	if e := CheckTerm(t); e != api.OK {
		return nil, e
	}
	s := scope{bound: map[string]int{}, free: map[string]bool{}}
	s.visit(t)
	return mapped(slices.Sorted(maps.Keys(s.free)), strings.Clone), api.OK
}

// BoundBy returns the names that a pattern binds, in its order.
func BoundBy(p api.Pattern) ([]string, api.Errno) {
	if e := CheckPattern(p); e != api.OK {
		return nil, e
	}
	return mapped(boundIn(p), strings.Clone), api.OK
}

// SizeOf returns the size and the depth of a term.
func SizeOf(t api.Term) ([2]int, api.Errno) {
	if e := CheckTerm(t); e != api.OK {
		return [2]int{}, e
	}
	x := extentOf(newChecker().termNode(t))
	return [2]int{x.size, x.depth}, api.OK
}

// Unplaced returns a term without offsets.
func Unplaced(t api.Term) (api.Term, api.Errno) {
	if e := CheckTerm(t); e != api.OK {
		return api.Term{}, e
	}
	return unplacedCopy(t), api.OK
}

// scope is how often names are bound where a term stands, and which names were free so far.
type scope struct {
	bound map[string]int
	free  map[string]bool
}

func (s scope) visit(terms ...api.Term) {
	for _, t := range terms {
		switch t.Kind {
		case api.TermName:
			if s.bound[t.Name] == 0 {
				s.free[t.Name] = true
			}
		case api.TermLambda, api.TermLet:
			s.within([]string{t.Name}, t.Parts)
		default:
			s.visit(t.Parts...)
		}
		for _, arm := range t.Arms {
			s.within(boundIn(arm.Pattern), []api.Term{arm.Body})
		}
	}
}

// within visits terms in which names are bound.
func (s scope) within(names []string, terms []api.Term) {
	for _, name := range names {
		s.bound[name]++
	}
	s.visit(terms...)
	for _, name := range names {
		s.bound[name]--
	}
}

func boundIn(p api.Pattern) []string {
	if p.Kind == api.PatternName {
		return []string{p.Name}
	}
	return slices.Concat(mapped(p.Parts, boundIn)...)
}

// unplacedCopy is a term without offsets, in new memory.
func unplacedCopy(t api.Term) api.Term {
	t.At = 0
	t.Name = strings.Clone(t.Name)
	t.Parts = mapped(t.Parts, unplacedCopy)
	t.Arms = mapped(t.Arms, func(a api.Arm) api.Arm {
		return api.Arm{Pattern: patternCopy(a.Pattern), Body: unplacedCopy(a.Body)}
	})
	return t
}

func patternCopy(p api.Pattern) api.Pattern {
	p.Name = strings.Clone(p.Name)
	p.Parts = mapped(p.Parts, patternCopy)
	return p
}
