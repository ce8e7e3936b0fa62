package graph

import "ratchet/api"

// maxArgs is how many arguments an operation has at most.
const maxArgs = 3

// operation is what a kind of node has: a name, a number of arguments, and whether Value is used.
type operation struct {
	name   string
	args   int
	number bool
}

var operations = [api.OpCount]operation{
	api.OpConst:        {"const", 0, true},
	api.OpLeaf:         {"leaf", 0, true},
	api.OpNot:          {"not", 1, false},
	api.OpAnd:          {"and", 2, false},
	api.OpOr:           {"or", 2, false},
	api.OpXor:          {"xor", 2, false},
	api.OpAdd:          {"add", 2, false},
	api.OpSub:          {"sub", 2, false},
	api.OpMul:          {"mul", 2, false},
	api.OpEqual:        {"eq", 2, false},
	api.OpLess:         {"lt", 2, false},
	api.OpLessSigned:   {"slt", 2, false},
	api.OpMux:          {"mux", 3, false},
	api.OpJoin:         {"join", 2, false},
	api.OpSlice:        {"slice", 1, true},
	api.OpExtend:       {"zext", 1, false},
	api.OpExtendSigned: {"sext", 1, false},
	api.OpShiftLeft:    {"shl", 2, false},
	api.OpShiftRight:   {"shr", 2, false},
}

// argumentsOf is what a function says of the arguments of a node; there are zero values for those that it does not have.
func argumentsOf[T any](n api.Node, of func(arg int) T) [maxArgs]T {
	var list [maxArgs]T
	for i, arg := range n.Args {
		list[i] = of(arg)
	}
	return list
}

// widthsFit says whether a node may have arguments with these widths.
func widthsFit(n api.Node, widths [maxArgs]int) bool {
	a, b, c := widths[0], widths[1], widths[2]
	switch n.Op {
	case api.OpNot, api.OpShiftLeft, api.OpShiftRight:
		return a == n.Width
	case api.OpAnd, api.OpOr, api.OpXor, api.OpAdd, api.OpSub, api.OpMul:
		return a == n.Width && b == n.Width
	case api.OpEqual, api.OpLess, api.OpLessSigned:
		return a == b && n.Width == 1
	case api.OpMux:
		return a == 1 && b == n.Width && c == n.Width
	case api.OpJoin:
		return a+b == n.Width
	case api.OpSlice:
		return n.Value+n.Width <= a
	case api.OpExtend, api.OpExtendSigned:
		return a <= n.Width
	}
	return true
}

// resultOf is the value of a node that is no leaf, by its arguments.
func resultOf(n api.Node, args [maxArgs]api.Bits) int {
	return exactOf(n, args) & highest(n.Width)
}

// exactOf is a number that is the value of a node modulo 2 to the power of its width.
func exactOf(n api.Node, args [maxArgs]api.Bits) int {
	a, b, c := args[0], args[1], args[2]
	switch n.Op {
	case api.OpNot:
		return ^a.Value
	case api.OpAnd:
		return a.Value & b.Value
	case api.OpOr:
		return a.Value | b.Value
	case api.OpXor:
		return a.Value ^ b.Value
	case api.OpAdd:
		return a.Value + b.Value
	case api.OpSub:
		return a.Value - b.Value
	case api.OpMul:
		return a.Value * b.Value
	case api.OpEqual:
		return flag(a.Value == b.Value)
	case api.OpLess:
		return flag(a.Value < b.Value)
	case api.OpLessSigned:
		return flag(signed(a) < signed(b))
	case api.OpMux:
		if a.Value == 1 {
			return b.Value
		}
		return c.Value
	case api.OpJoin:
		return a.Value<<b.Width | b.Value
	case api.OpSlice:
		return a.Value >> n.Value
	case api.OpExtend:
		return a.Value
	case api.OpExtendSigned:
		return signed(a)
	case api.OpShiftLeft:
		// Shifting by more than all bits is shifting by all of them, for which an int has room.
		return a.Value << min(b.Value, n.Width)
	case api.OpShiftRight:
		return a.Value >> min(b.Value, n.Width)
	}
	return n.Value
}

// flag is a truth value as a bit.
func flag(set bool) int {
	if set {
		return 1
	}
	return 0
}

// signed is a value as a two's complement.
func signed(x api.Bits) int {
	if x.Value > highest(x.Width-1) {
		return x.Value - highest(x.Width) - 1
	}
	return x.Value
}
