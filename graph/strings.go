package graph

import (
	"iter"
	"strconv"
	"strings"

	"ratchet/api"
)

// maxDigits is how many digits a number in a string may have.
const maxDigits = 5

// FormatNodes returns the string of nodes, valid or not.
func FormatNodes(nodes []api.Node) string {
	var s strings.Builder
	for i, n := range nodes {
		if i > 0 {
			s.WriteByte(';')
		}
		writeNode(&s, n)
	}
	return s.String()
}

func writeNode(s *strings.Builder, n api.Node) {
	kind := operation{name: "?"}
	if isIndex(n.Op, api.OpCount) {
		kind = operations[n.Op]
	}
	s.WriteString(kind.name)
	writeNumber := func(number int) {
		s.WriteByte(' ')
		s.WriteString(strconv.Itoa(number))
	}
	writeNumber(n.Width)
	for _, arg := range n.Args {
		writeNumber(arg)
	}
	if kind.number {
		writeNumber(n.Value)
	}
}

// ParseNodes returns the nodes with a string.
func ParseNodes(leaves []int, s string) ([]api.Node, api.Errno) {
	if len(s) > api.MaxString {
		return nil, api.ErrLarge
	}
	nodes, formed := nodesIn(s)
	if e := firstError(errorIf(!formed, api.ErrSyntax), errorOfGraph(leaves, nodes)); e != api.OK {
		return nil, e
	}
	return nodes, api.OK
}

// nodesIn is the nodes of a string, valid or not, and whether it is well formed.
func nodesIn(s string) ([]api.Node, bool) {
	if s == "" {
		return nil, true
	}
	kinds := kindsByName()
	var nodes []api.Node
	for part := range parts(s, ";") {
		n, formed := nodeIn(part, kinds)
		if !formed {
			return nil, false
		}
		nodes = append(nodes, n)
	}
	return nodes, true
}

func kindsByName() map[string]int {
	kinds := map[string]int{}
	for kind := range api.OpCount {
		kinds[operations[kind].name] = kind
	}
	return kinds
}

// nodeIn is the node of a string, and whether it is well formed.
func nodeIn(s string, kinds map[string]int) (api.Node, bool) {
	name, rest, _ := strings.Cut(s, " ")
	kind, known := kinds[name]
	numbers, formed := numbersIn(rest)
	if !known || !formed {
		return api.Node{}, false
	}
	// The width is before the arguments, the value after them.
	args := operations[kind].args
	n := api.Node{Op: kind, Width: numbers[0]}
	want := 1 + args
	if operations[kind].number {
		want++
	}
	if len(numbers) != want {
		return api.Node{}, false
	}
	n.Args = append(n.Args, numbers[1:1+args]...)
	if operations[kind].number {
		n.Value = numbers[1+args]
	}
	return n, true
}

// numbersIn is the numbers of a string, at least one, and whether it is well formed.
func numbersIn(s string) ([]int, bool) {
	var numbers []int
	for part := range parts(s, " ") {
		number, formed := numberIn(part)
		if !formed {
			return nil, false
		}
		numbers = append(numbers, number)
	}
	return numbers, true
}

// numberIn is the number of a string, and whether it is well formed.
func numberIn(s string) (int, bool) {
	if s == "" || len(s) > maxDigits || len(s) > 1 && s[0] == '0' {
		return 0, false
	}
	number := 0
	for i := range len(s) {
		if s[i] < '0' || s[i] > '9' {
			return 0, false
		}
		number = number*10 + int(s[i]-'0')
	}
	return number, true
}

// parts yields what is between the separators of a string.
func parts(s, separator string) iter.Seq[string] {
	return func(yield func(part string) bool) {
		for {
			part, rest, more := strings.Cut(s, separator)
			if !yield(part) || !more {
				return
			}
			s = rest
		}
	}
}
