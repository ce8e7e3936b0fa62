package cnf

import (
	"strconv"
	"strings"

	"ratchet/api"
)

// maxDigits is how many digits a number in a string may have.
const maxDigits = 4

// FormatFormula returns the string of a formula, valid or not.
func FormatFormula(f api.CnfFormula) string {
	var s strings.Builder
	s.WriteString(strconv.Itoa(f.Vars))
	for _, clause := range f.Clauses {
		s.WriteByte(';')
		for _, literal := range clause {
			s.WriteString(strconv.Itoa(literal))
			s.WriteByte(' ')
		}
		s.WriteByte('0')
	}
	return s.String()
}

// ParseFormula returns the formula with a string.
func ParseFormula(s string) (api.CnfFormula, api.Errno) {
	if len(s) > api.MaxString {
		return api.CnfFormula{}, api.ErrLarge
	}
	f, formed := formulaIn(s)
	if e := firstError(errorIf(!formed, api.ErrSyntax), errorOfFormula(f)); e != api.OK {
		return api.CnfFormula{}, e
	}
	return f, api.OK
}

// formulaIn is the formula of a string, valid or not, and whether it is well formed.
func formulaIn(s string) (api.CnfFormula, bool) {
	parts := strings.Split(s, ";")
	vars, formed := numberIn(parts[0])
	if !formed {
		return api.CnfFormula{}, false
	}
	f := api.CnfFormula{Vars: vars}
	for _, part := range parts[1:] {
		clause, formed := clauseIn(part)
		if !formed {
			return api.CnfFormula{}, false
		}
		f.Clauses = append(f.Clauses, clause)
	}
	return f, true
}

// clauseIn is the clause of a string, valid or not, and whether it is well formed.
func clauseIn(s string) ([]int, bool) {
	words := strings.Split(s, " ")
	last := len(words) - 1
	if words[last] != "0" {
		return nil, false
	}
	var clause []int
	for _, word := range words[:last] {
		literal, formed := literalIn(word)
		if !formed {
			return nil, false
		}
		clause = append(clause, literal)
	}
	return clause, true
}

// literalIn is the literal of a string, and whether it is well formed.
func literalIn(s string) (int, bool) {
	digits, negative := strings.CutPrefix(s, "-")
	number, formed := numberIn(digits)
	if negative {
		number = -number
	}
	return number, formed && number != 0
}

// numberIn is the number without a sign of a string, and whether it is well formed.
func numberIn(s string) (int, bool) {
	if s == "" || len(s) > maxDigits || len(s) > 1 && s[0] == '0' {
		return 0, false
	}
	number := 0
	for i := range len(s) {
		if s[i] < '0' || s[i] > '9' {
			return 0, false
		}
		number = number*10 + int(s[i]-'0')
	}
	return number, true
}
