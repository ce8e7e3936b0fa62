package syntax

import (
	"ratchet/api"
	"ratchet/lexer"
)

// reader is the tokens of a text, and how many of them are read.
type reader struct {
	tokens     []api.LexerToken
	next       int
	end        int // how many bytes the text has
	primitives map[string]primitive
	statements map[string]statementForm
}

// failure is the offset at which a text cannot go on.
type failure struct{ at int }

// newReader is the reader of a text; beside an error, the offset of what is wrong.
func newReader(text string) (*reader, int, api.Errno) {
	tokens, at, e := lexer.Tokens(text)
	if e != api.OK {
		return nil, at, e
	}
	return &reader{tokens: tokens, end: len(text), primitives: primitives(), statements: statementForms()}, 0, api.OK
}

// whole is the tree that all tokens are; beside an error, the offset at which they cannot go on.
func whole[T any](r *reader, read func(r *reader) T) (tree T, at int, e api.Errno) {
	// Only reading to the end replaces this error, whatever ends it before.
	at, e = r.end, api.ErrSyntax
	defer func() {
		if f, failed := recover().(failure); failed {
			at = f.at
		}
	}()
	tree = read(r)
	if r.next < len(r.tokens) {
		panic(r.failure())
	}
	return tree, 0, api.OK
}

// failure is that of the token that is next.
func (r *reader) failure() failure { return failure{r.current().At} }

// current is the token that is next; after the last one, a token of no kind at the end of the text.
func (r *reader) current() api.LexerToken {
	if r.next < len(r.tokens) {
		return r.tokens[r.next]
	}
	return api.LexerToken{Kind: api.LexerKinds, At: r.end}
}

// skip is the token that was next.
func (r *reader) skip() api.LexerToken {
	t := r.current()
	r.next++
	return t
}

// take is the token that was next, which must be of a kind.
func (r *reader) take(kind int) api.LexerToken {
	if r.current().Kind != kind {
		panic(r.failure())
	}
	return r.skip()
}

// name is the text of a token that must be a name.
func (r *reader) name() string { return r.take(api.LexerName).Text }

// capital is the text of a token that must be a capital.
func (r *reader) capital() string { return r.take(api.LexerCapital).Text }

// number is the value of a token that must be a number.
func (r *reader) number() int { return r.take(api.LexerNumber).Value }

// accepts skips a keyword or an operator if it is next, and says whether it was.
func (r *reader) accepts(sign string) bool {
	// No token of another kind has the text of one of these.
	if r.current().Text != sign {
		return false
	}
	r.next++
	return true
}

// expect skips a keyword or an operator that must be next.
func (r *reader) expect(sign string) {
	if !r.accepts(sign) {
		panic(r.failure())
	}
}

// until is what is read before a sign that ends it.
func until[T any](r *reader, sign string, read func() T) []T {
	var items []T
	for !r.accepts(sign) {
		item := read()
		items = append(items, item)
	}
	return items
}

// separated is what is read with a sign between two items, at least one.
func separated[T any](r *reader, sign string, read func() T) []T {
	items := []T{read()}
	for r.accepts(sign) {
		item := read()
		items = append(items, item)
	}
	return items
}

// enclosed is what is read with commas up to a sign that ends it, at least one item.
func enclosed[T any](r *reader, sign string, read func() T) []T {
	items := separated(r, ",", read)
	r.expect(sign)
	return items
}

// parameters is what is read in parentheses, which may be empty.
func parameters[T any](r *reader, read func() T) []T {
	r.expect("(")
	if r.accepts(")") {
		return nil
	}
	return enclosed(r, ")", read)
}

// arguments is what is read in the parentheses that a capital may have, which are not empty.
func arguments[T any](r *reader, read func() T) []T {
	if !r.accepts("(") {
		return nil
	}
	return enclosed(r, ")", read)
}
