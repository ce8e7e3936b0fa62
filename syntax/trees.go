package syntax

import (
	"iter"

	"ratchet/api"
)

// node is a type, a pattern, a term or a statement as a part of a tree.
type node struct {
	wrong func() api.Errno // the error of the node without its parts
	parts iter.Seq[node]
}

func (c *checker) typeNode(t api.Type) node {
	return node{func() api.Errno { return c.errorOfType(t) }, each(t.Parts, c.typeNode)}
}

func (c *checker) patternNode(p api.Pattern) node {
	return node{func() api.Errno { return c.errorOfPattern(p) }, each(p.Parts, c.patternNode)}
}

func (c *checker) termNode(t api.Term) node {
	parts := chained(each(t.Parts, c.termNode), c.armNodes(t.Arms))
	return node{func() api.Errno { return c.errorOfTerm(t) }, parts}
}

// armNodes are the patterns and the bodies of arms.
func (c *checker) armNodes(arms []api.Arm) iter.Seq[node] {
	return func(yield func(part node) bool) {
		for _, arm := range arms {
			if !yield(c.patternNode(arm.Pattern)) || !yield(c.termNode(arm.Body)) {
				return
			}
		}
	}
}

func (c *checker) statementNode(s api.Statement) node {
	parts := chained(
		c.typeNodes(s),
		each(s.Params, func(p api.Field) node { return c.typeNode(p.Type) }),
		each(s.Terms, c.termNode),
		each(s.Body, c.statementNode),
		each(s.Else, c.statementNode),
	)
	return node{func() api.Errno { return c.errorOfStatement(s) }, parts}
}

// typeNodes is the type of a statement, or nothing if there is none.
func (c *checker) typeNodes(s api.Statement) iter.Seq[node] {
	typed := isIndex(s.Kind, api.StateKinds) && c.statements[s.Kind].typed
	return func(yield func(part node) bool) {
		switch {
		case s.Kind == api.StateMethod && isOpen(s.Type):
			// Nowhere else the open type is one.
			yield(node{func() api.Errno { return api.OK }, chained[node]()})
		case typed || !isZero(s.Type):
			yield(c.typeNode(s.Type))
		}
	}
}

// errorOfTree is the error of a tree, of which nothing is looked at before it is known not to be too large.
func errorOfTree(n node) api.Errno {
	if extentOf(n).isLarge() {
		return api.ErrLarge
	}
	return n.errorOf()
}

// errorOf is the error of a node and its parts.
func (n node) errorOf() api.Errno {
	if e := n.wrong(); e != api.OK {
		return e
	}
	for part := range n.parts {
		if e := part.errorOf(); e != api.OK {
			return e
		}
	}
	return api.OK
}

// extent is how large a tree is.
type extent struct{ size, depth int }

// extentOf is the extent of a tree, or another one that is too large if it is.
func extentOf(n node) extent {
	var x extent
	x.add(n, 1)
	return x
}

// add counts a node at a depth, and its parts. It does not go on when there are too many, so that it ends for a slice that contains itself.
func (x *extent) add(n node, depth int) {
	x.size++
	x.depth = max(x.depth, depth)
	if x.isLarge() {
		return
	}
	for part := range n.parts {
		x.add(part, depth+1)
		if x.isLarge() {
			return
		}
	}
}

func (x extent) isLarge() bool {
	return x.size > api.MaxSyntaxNodes || x.depth > api.MaxSyntaxDepth
}
