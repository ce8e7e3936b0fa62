package lexer

import "ratchet/api"

// keywords ascend by bytes ("input" is before "inst").
var keywords = [25]string{
	"bits", "case", "data", "def", "else", "extend", "for", "if", "import", "in", "input", "inst", "let",
	"log", "method", "module", "of", "output", "package", "reg", "rule", "sextend", "then", "when", "wire",
}

// operators ascend by bytes.
var operators = [32]string{
	"!", "!=", "&", "&&", "(", ")", "*", "+", "++", ",", "-", "->", ".", "..", ":", ";",
	"<", "<<", "<=", "=", "==", ">>", "[", "\\", "]", "^", "_", "{", "|", "||", "}", "~",
}

// Keywords returns the keywords, ascending.
func Keywords() []string {
	// A copy, so that the caller cannot change the table.
	list := keywords
	return list[:]
}

// Operators returns the operators, ascending.
func Operators() []string {
	list := operators
	return list[:]
}

// IsKeyword returns whether a string is a keyword.
func IsKeyword(s string) bool {
	for _, keyword := range keywords {
		if s == keyword {
			return true
		}
	}
	return false
}

// fixedKinds are the kinds of the texts that are always tokens of one kind.
func fixedKinds() map[string]int {
	kinds := make(map[string]int, len(keywords)+len(operators))
	for _, keyword := range keywords {
		kinds[keyword] = api.LexerKeyword
	}
	for _, operator := range operators {
		kinds[operator] = api.LexerOperator
	}
	return kinds
}

func isPermitted(c byte) bool { return c == '\t' || c == '\n' || c >= ' ' && c <= '~' }

func isSpace(c byte) bool { return c == ' ' || c == '\t' || c == '\n' }

func isCapital(c byte) bool { return c >= 'A' && c <= 'Z' }

func isLetter(c byte) bool { return isCapital(c) || c >= 'a' && c <= 'z' }

func isDigit(c byte) bool { return c >= '0' && c <= '9' }

// isInName says whether a name goes on with a byte.
func isInName(c byte) bool { return isLetter(c) || isDigit(c) || c == '_' }

// isInNumeral says whether a number or a literal goes on with a byte.
func isInNumeral(c byte) bool { return isInName(c) || c == '\'' }
