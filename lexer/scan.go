package lexer

import (
	"iter"
	"strings"

	"ratchet/api"
)

// scanner is a text, and the kinds of the texts that are always tokens of one kind.
type scanner struct {
	text  string
	fixed map[string]int
}

func newScanner(text string) scanner { return scanner{text, fixedKinds()} }

// piece is a comment, or what is neither space nor in one: a word, a numeral, an operator, or one byte that is none of these.
type piece struct {
	at      int
	text    string
	comment bool
}

// first is the first token from an offset on; beside an error, only At has a meaning.
func (s scanner) first(at int) (api.LexerToken, api.Errno) {
	for t, e := range s.tokens(at) {
		return t, e
	}
	return api.LexerToken{}, api.ErrNone
}

// tokens yields the tokens from an offset on, up to the first error, with which only At has a meaning.
func (s scanner) tokens(from int) iter.Seq2[api.LexerToken, api.Errno] {
	return func(yield func(t api.LexerToken, e api.Errno) bool) {
		for p, e := range s.pieces(from) {
			if p.comment {
				continue
			}
			t := api.LexerToken{At: p.at}
			if e == api.OK {
				t, e = s.tokenOf(p)
			}
			if !yield(t, e) || e != api.OK {
				return
			}
		}
	}
}

// tokenOf is the token that a piece is, and its error.
func (s scanner) tokenOf(p piece) (api.LexerToken, api.Errno) {
	// A copy, as no result keeps the memory of an argument.
	t := api.LexerToken{At: p.at, Text: strings.Clone(p.text)}
	switch {
	case isLetter(p.text[0]):
		t.Kind = s.kindOfWord(p.text)
		return t, errorIf(len(p.text) > api.MaxName, api.ErrName)
	case isDigit(p.text[0]):
		return numeralOf(t)
	}
	t.Kind = api.LexerOperator
	return t, errorIf(!s.isOperator(p.text), api.ErrSyntax)
}

func (s scanner) kindOfWord(word string) int {
	kind, fixed := s.fixed[word]
	switch {
	case fixed:
		return kind
	case isCapital(word[0]):
		return api.LexerCapital
	}
	return api.LexerName
}

func (s scanner) isOperator(text string) bool { return s.fixed[text] == api.LexerOperator }

// pieces yields the pieces from an offset on, up to the first byte that is not permitted, or comment that is not closed, with its offset.
func (s scanner) pieces(from int) iter.Seq2[piece, api.Errno] {
	return func(yield func(p piece, e api.Errno) bool) {
		for at := from; at < len(s.text); {
			if isSpace(s.text[at]) {
				at++
				continue
			}
			p, e := s.pieceAt(at)
			if !yield(p, e) || e != api.OK {
				return
			}
			at += len(p.text)
		}
	}
}

// pieceAt is the piece that begins at an offset, at which there is no space; beside an error, the offset of what is wrong.
func (s scanner) pieceAt(at int) (piece, api.Errno) {
	rest := s.text[at:]
	if !isPermitted(rest[0]) {
		return piece{at: at}, api.ErrKind
	}
	length, e := commentLength(rest)
	if e != api.OK {
		return piece{at: at + length}, e
	}
	if length > 0 {
		return piece{at, rest[:length], true}, api.OK
	}
	return piece{at, rest[:s.wordLength(rest)], false}, api.OK
}

// wordLength is the length of the word, the numeral or the operator with which a text begins, otherwise 1.
func (s scanner) wordLength(text string) int {
	switch {
	case isLetter(text[0]):
		return spanOf(text, isInName)
	case isDigit(text[0]):
		return spanOf(text, isInNumeral)
	}
	// No operator has more than two bytes.
	if len(text) > 1 && s.isOperator(text[:2]) {
		return 2
	}
	return 1
}

// spanOf is how many bytes at the beginning of a text are such ones.
func spanOf(text string, such func(c byte) bool) int {
	for i := range len(text) {
		if !such(text[i]) {
			return i
		}
	}
	return len(text)
}
