package gates

import (
	"strconv"
	"strings"

	"ratchet/api"
)

// maxDigits is how many digits a number in a string may have.
const maxDigits = 6

// FormatGates returns the string of a graph, valid or not.
func FormatGates(g api.GateGraph) string {
	var s strings.Builder
	s.WriteString(strconv.Itoa(g.Leaves))
	s.WriteByte(';')
	for i, gate := range g.Gates {
		if i > 0 {
			s.WriteByte(',')
		}
		writeNumbers(&s, gate[:])
	}
	s.WriteByte(';')
	writeNumbers(&s, g.Outputs)
	return s.String()
}

func writeNumbers(s *strings.Builder, numbers []int) {
	for i, number := range numbers {
		if i > 0 {
			s.WriteByte(' ')
		}
		s.WriteString(strconv.Itoa(number))
	}
}

// ParseGates returns the graph with a string.
func ParseGates(s string) (api.GateGraph, api.Errno) {
	if len(s) > api.MaxString {
		return api.GateGraph{}, api.ErrLarge
	}
	g, formed := graphIn(s)
	if e := firstError(errorIf(!formed, api.ErrSyntax), errorOfGates(g)); e != api.OK {
		return api.GateGraph{}, e
	}
	return g, api.OK
}

// graphIn is the graph of a string, valid or not, and whether it is well formed.
func graphIn(s string) (api.GateGraph, bool) {
	parts := strings.Split(s, ";")
	if len(parts) != 3 {
		return api.GateGraph{}, false
	}
	leaves, formedLeaves := numberIn(parts[0])
	gates, formedGates := itemsIn(parts[1], ",", gateIn)
	outputs, formedOutputs := itemsIn(parts[2], " ", numberIn)
	return api.GateGraph{Leaves: leaves, Gates: gates, Outputs: outputs}, formedLeaves && formedGates && formedOutputs
}

// itemsIn is the items between the separators of a string, none if it is empty, and whether all of them are well formed.
func itemsIn[T any](s, separator string, itemIn func(s string) (T, bool)) ([]T, bool) {
	if s == "" {
		return nil, true
	}
	var items []T
	for _, part := range strings.Split(s, separator) {
		item, formed := itemIn(part)
		if !formed {
			return nil, false
		}
		items = append(items, item)
	}
	return items, true
}

// gateIn is the gate of a string, and whether it is well formed.
func gateIn(s string) ([2]int, bool) {
	literals, formed := itemsIn(s, " ", numberIn)
	if !formed || len(literals) != 2 {
		return [2]int{}, false
	}
	return [2]int{literals[0], literals[1]}, true
}

// numberIn is the number of a string, and whether it is well formed.
func numberIn(s string) (int, bool) {
	if s == "" || len(s) > maxDigits || len(s) > 1 && s[0] == '0' {
		return 0, false
	}
	number := 0
	for i := range len(s) {
		if s[i] < '0' || s[i] > '9' {
			return 0, false
		}
		number = number*10 + int(s[i]-'0')
	}
	return number, true
}
