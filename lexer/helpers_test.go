package lexer_test

import (
	"math"
	"math/big"
	"regexp"
	"strings"

	"ratchet/api"
)

// The words and signs as the chapter lists them.
var (
	keywordList  = strings.Fields("bits case data def else extend for if import in input inst let log method module of output package reg rule sextend then when wire")
	operatorList = strings.Fields(`! != & && ( ) * + ++ , - -> . .. : ; < << <= = == >> [ \ ] ^ _ { | || } ~`)
)

// extremes are numbers at which careless arithmetic panics or wraps around.
var extremes = []int{math.MinInt, math.MinInt + 1, math.MinInt32, -2, -1, math.MaxInt32, math.MaxInt - 1, math.MaxInt}

func rep(s string, n int) string { return strings.Repeat(s, n) }

func token(kind, at int, text string) api.LexerToken {
	return api.LexerToken{Kind: kind, At: at, Text: text}
}

func number(at int, text string, value int) api.LexerToken {
	return api.LexerToken{Kind: api.LexerNumber, At: at, Text: text, Value: value}
}

func literal(at int, text string, value, width int) api.LexerToken {
	return api.LexerToken{Kind: api.LexerLiteral, At: at, Text: text, Value: value, Width: width}
}

// moved is tokens with other offsets.
func moved(l []api.LexerToken, by int) []api.LexerToken {
	var others []api.LexerToken
	for _, t := range l {
		t.At += by
		others = append(others, t)
	}
	return others
}

// unplaced is tokens without offsets.
func unplaced(l []api.LexerToken) []api.LexerToken {
	var others []api.LexerToken
	for _, t := range l {
		t.At = 0
		others = append(others, t)
	}
	return others
}

// THE REFERENCE: the chapter's definitions, written as forms of strings and by recursion.

var (
	wordForm    = regexp.MustCompile(`^[A-Za-z][A-Za-z0-9_]*`)
	numeralForm = regexp.MustCompile(`^[0-9][A-Za-z0-9_']*`)
	numberForm  = regexp.MustCompile(`^(0|[1-9][0-9]{0,8})$`)
	sizedForm   = regexp.MustCompile(`^(0|[1-9][0-9]{0,8})'(b[01]{1,16}|d[0-9]{1,16}|h[0-9a-f]{1,16})$`)
	lineForm    = regexp.MustCompile(`^//[^\n]*`)
)

// wrongByte is the offset of the first byte that is not permitted, or -1.
func wrongByte(s string) int {
	for i, c := range []byte(s) {
		if c != 9 && c != 10 && (c < 32 || c > 126) {
			return i
		}
	}
	return -1
}

// reading is what the reference finds in a text up to the first error.
type reading struct {
	tokens   []api.LexerToken
	comments []api.Range
	at       int
	e        api.Errno
}

// whole is nothing but the error if there is one.
func (r reading) whole() reading {
	if r.e != api.OK {
		return reading{at: r.at, e: r.e}
	}
	return r
}

// closing is the offset after the comment that begins at an offset, or -1.
func closing(text string, at int) int {
	at += 2
	for at < len(text) {
		if strings.HasPrefix(text[at:], "*/") {
			return at + 2
		}
		if strings.HasPrefix(text[at:], "/*") {
			if at = closing(text, at); at < 0 {
				return -1
			}
			continue
		}
		at++
	}
	return -1
}

// readingOf is the tokens and the comments of a text with the first error; with loose tokens, these have none.
func readingOf(text string, loose bool) reading {
	var r reading
	fail := func(at int, e api.Errno) reading {
		r.at, r.e = at, e
		return r
	}
	for at := 0; at < len(text); {
		rest := text[at:]
		if strings.ContainsRune(" \t\n", rune(rest[0])) {
			at++
			continue
		}
		if wrongByte(rest[:1]) == 0 {
			return fail(at, api.ErrKind)
		}
		end := 0
		switch {
		case strings.HasPrefix(rest, "//"):
			end = at + len(lineForm.FindString(rest))
		case strings.HasPrefix(rest, "/*"):
			end = closing(text, at)
		}
		if end != 0 {
			comment := rest
			if end > 0 {
				comment = text[at:end]
			}
			if i := wrongByte(comment); i >= 0 {
				return fail(at+i, api.ErrKind)
			}
			if end < 0 {
				return fail(at, api.ErrOpen)
			}
			r.comments = append(r.comments, api.Range{Lo: at, Hi: end - 1})
			at = end
			continue
		}
		t, e := tokenOf(rest)
		if e != api.OK && !loose {
			return fail(at, e)
		}
		t.At = at
		r.tokens = append(r.tokens, t)
		at += max(1, len(t.Text))
	}
	return r
}

// tokenOf is the token with which a text begins, and its error.
func tokenOf(text string) (api.LexerToken, api.Errno) {
	if word := wordForm.FindString(text); word != "" {
		t := token(api.LexerName, 0, word)
		if strings.Contains(" "+strings.Join(keywordList, " ")+" ", " "+word+" ") {
			t.Kind = api.LexerKeyword
		} else if strings.ToLower(word[:1]) != word[:1] {
			t.Kind = api.LexerCapital
		}
		if len(word) > 16 {
			return t, api.ErrName
		}
		return t, api.OK
	}
	if numeral := numeralForm.FindString(text); numeral != "" {
		return numeralOf(numeral)
	}
	best := ""
	for _, operator := range operatorList {
		if strings.HasPrefix(text, operator) && len(operator) > len(best) {
			best = operator
		}
	}
	if best == "" {
		return api.LexerToken{}, api.ErrSyntax
	}
	return token(api.LexerOperator, 0, best), api.OK
}

func numeralOf(s string) (api.LexerToken, api.Errno) {
	t := token(api.LexerNumber, 0, s)
	if numberForm.MatchString(s) {
		t.Value = int(bigOf(s, 10).Int64())
		return t, api.OK
	}
	t.Kind = api.LexerLiteral
	if !sizedForm.MatchString(s) {
		return t, api.ErrSyntax
	}
	before, after, _ := strings.Cut(s, "'")
	width := bigOf(before, 10)
	value := bigOf(after[1:], map[byte]int{'b': 2, 'd': 10, 'h': 16}[after[0]])
	if width.Sign() == 0 || width.Cmp(big.NewInt(16)) > 0 || value.BitLen() > int(width.Int64()) {
		return t, api.ErrRange
	}
	t.Value, t.Width = int(value.Int64()), int(width.Int64())
	return t, api.OK
}

func bigOf(digits string, base int) *big.Int {
	n, formed := new(big.Int).SetString(digits, base)
	if !formed {
		panic(digits)
	}
	return n
}

// TEXTS

// eachText visits all texts of up to so many of some parts.
func eachText(parts []string, most int, visit func(text string)) {
	texts := []string{""}
	for length := 0; ; length++ {
		var longer []string
		for _, text := range texts {
			visit(text)
			for _, part := range parts {
				longer = append(longer, text+part)
			}
		}
		if length == most {
			return
		}
		texts = longer
	}
}

// dice are numbers that look arbitrary, and are the same in each run.
type dice struct{ state uint32 }

func (d *dice) below(n int) int {
	d.state = d.state*1664525 + 1013904223
	return int(d.state>>8) % n
}

// fragments are what arbitrary texts are made of; most of them are without errors.
var fragments = append(append([]string{
	" ", "  ", "\t", "\n", "a", "x1", "Bit", "Z_", "_a", "0", "12", "999999999", "4'b0101", "16'hffff", "3'd7", "12'h00f",
	"//", "// a /* b\n", "/*", "*/", "/**/", "/*a\n*/", "/*/**/*/", "/", "*",
}, keywordList...), operatorList...)

// eachArbitrary visits arbitrary texts.
func eachArbitrary(count int, visit func(d *dice, text string)) {
	d := &dice{7}
	spoilt := []string{"\x80", "\x00", "\r", ">", "@", "1a", "00", "17'h0", "2'd4", "abcdefghijklmnopq", "'", "\"", "/*\x80*/", "//\x7f\n"}
	for range count {
		var s strings.Builder
		for range d.below(14) {
			if d.below(40) == 0 {
				s.WriteString(spoilt[d.below(len(spoilt))])
			} else {
				s.WriteString(fragments[d.below(len(fragments))])
			}
			if d.below(2) == 0 {
				s.WriteByte(' ')
			}
		}
		visit(d, s.String())
	}
}
