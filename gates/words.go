package gates

import (
	"slices"

	"ratchet/api"
)

// word is the literals of the bits of a value, from the lowest one on. A word that has been made is not changed, so that others may be parts of it.
type word []int

// maker makes the word of a node of those of its arguments.
type maker func(n api.Node, args []word) word

// makers is, by the operations, how their words are made.
func (b *builder) makers(leaves []int) [api.OpCount]maker {
	bit := func(of func(x, y word) int) maker {
		return func(_ api.Node, args []word) word { return word{of(args[0], args[1])} }
	}
	return [api.OpCount]maker{
		api.OpConst:      func(n api.Node, _ []word) word { return constantWord(n.Width, n.Value) },
		api.OpLeaf:       func(n api.Node, _ []word) word { return leafWord(leaves, n.Value) },
		api.OpNot:        func(_ api.Node, args []word) word { return inverted(args[0]) },
		api.OpAnd:        bitByBit(b.and),
		api.OpOr:         bitByBit(b.or),
		api.OpXor:        bitByBit(b.xor),
		api.OpAdd:        func(_ api.Node, args []word) word { return b.sum(args[0], args[1], 0) },
		api.OpSub:        func(_ api.Node, args []word) word { return b.sum(args[0], inverted(args[1]), 1) },
		api.OpMul:        func(_ api.Node, args []word) word { return b.product(args[0], args[1]) },
		api.OpEqual:      bit(func(x, y word) int { return opposite(b.differ(x, y)) }),
		api.OpLess:       bit(b.less),
		api.OpLessSigned: bit(func(x, y word) int { return b.less(signInverted(x), signInverted(y)) }),
		api.OpMux:        func(_ api.Node, args []word) word { return b.chosen(args[0][0], args[1], args[2]) },
		api.OpJoin:       func(_ api.Node, args []word) word { return slices.Concat(args[1], args[0]) },
		api.OpSlice:      func(n api.Node, args []word) word { return args[0][n.Value : n.Value+n.Width] },
		api.OpExtend:     func(n api.Node, args []word) word { return extended(args[0], n.Width, 0) },
		api.OpExtendSigned: func(n api.Node, args []word) word {
			return extended(args[0], n.Width, args[0][len(args[0])-1])
		},
		api.OpShiftLeft:  func(_ api.Node, args []word) word { return b.shifted(args[0], args[1], 1) },
		api.OpShiftRight: func(_ api.Node, args []word) word { return b.shifted(args[0], args[1], -1) },
	}
}

// wordOf is the word in which each bit is what a function says of its place.
func wordOf(width int, bitAt func(i int) int) word {
	w := make(word, width)
	for i := range w {
		w[i] = bitAt(i)
	}
	return w
}

// bitByBit makes each bit of the bits of both arguments at the same place.
func bitByBit(of func(x, y int) int) maker {
	return func(n api.Node, args []word) word {
		return wordOf(n.Width, func(i int) int { return of(args[0][i], args[1][i]) })
	}
}

func constantWord(width, value int) word {
	return wordOf(width, func(i int) int { return value >> i & 1 })
}

// leafWord is the bits of a leaf, which come after those of the leaves before it.
func leafWord(leaves []int, leaf int) word {
	first := 1 + bitsOf(leaves[:leaf])
	return wordOf(leaves[leaf], func(i int) int { return literalOf(first + i) })
}

// bitsOf is how many bits leaves have together.
func bitsOf(leaves []int) int {
	bits := 0
	for _, width := range leaves {
		bits += width
	}
	return bits
}

func inverted(w word) word {
	return wordOf(len(w), func(i int) int { return opposite(w[i]) })
}

// signInverted is a word with the opposite highest bit. Two's complements are in the order that numbers without signs have after that.
func signInverted(w word) word {
	last := len(w) - 1
	return slices.Concat(w[:last], word{opposite(w[last])})
}

func extended(w word, width, above int) word {
	return slices.Concat(w, slices.Repeat(word{above}, width-len(w)))
}

// moved is a word with each bit so many places higher (or lower, if it is negative), and zeros from outside.
func moved(w word, places int) word {
	return wordOf(len(w), func(i int) int {
		if !isIndex(i-places, len(w)) {
			return 0
		}
		return w[i-places]
	})
}

// sum is the sum of two words and a bit.
func (b *builder) sum(x, y word, carry int) word {
	w := make(word, len(x))
	for i := range w {
		w[i], carry = b.added(x[i], y[i], carry)
	}
	return w
}

// added is the sum of three bits, and the carry.
func (b *builder) added(x, y, z int) (int, int) {
	half, both := b.xor(x, y), b.and(x, y)
	sum, more := b.xor(half, z), b.and(half, z)
	return sum, b.or(both, more)
}

// product is the product of two words, added up column by column.
func (b *builder) product(x, y word) word {
	columns := make([]word, len(x)+1)
	for i := range x {
		for j := range len(x) - i {
			columns[i+j] = append(columns[i+j], b.and(x[i], y[j]))
		}
	}
	w := make(word, len(x))
	for i := range w {
		bit, carries := b.columnSum(columns[i])
		w[i] = bit
		columns[i+1] = append(columns[i+1], carries...)
	}
	return w
}

// columnSum is the sum of the bits of a column, and the carries for the next one.
func (b *builder) columnSum(column word) (int, word) {
	// In ascending order, the columns of x times y are those of y times x.
	slices.Sort(column)
	var carries word
	for len(column) > 1 {
		var three [3]int
		count := copy(three[:], column)
		sum, carry := b.added(three[0], three[1], three[2])
		column = append(column[count:], sum)
		carries = append(carries, carry)
	}
	return column[0], carries
}

// differ is the literal that is 1 if two words differ.
func (b *builder) differ(x, y word) int {
	literal := 0
	for i := range x {
		literal = b.or(literal, b.xor(x[i], y[i]))
	}
	return literal
}

// less is the literal that is 1 if a word is less than another one, both without signs.
func (b *builder) less(x, y word) int {
	literal := 0
	for i := range x {
		// Two of these three are 1 if the higher bits are less, or are the same and the lower bits are less.
		low := opposite(x[i])
		literal = b.or(b.and(low, y[i]), b.and(b.or(low, y[i]), literal))
	}
	return literal
}

// chosen is the first word if a bit is 1, the second one if it is 0.
func (b *builder) chosen(bit int, x, y word) word {
	return wordOf(len(x), func(i int) int {
		if x[i] == y[i] {
			return x[i]
		}
		return b.or(b.and(bit, x[i]), b.and(opposite(bit), y[i]))
	})
}

// shifted is a word with its bits as many places higher (or lower, if the direction is -1) as another word says.
func (b *builder) shifted(w, by word, direction int) word {
	far := 0 // 1 if no bit stays within the word
	for i, bit := range by {
		if places := 1 << i; places < len(w) {
			w = b.chosen(bit, moved(w, direction*places), w)
			continue
		}
		far = b.or(far, bit)
	}
	return wordOf(len(w), func(i int) int { return b.and(w[i], opposite(far)) })
}
