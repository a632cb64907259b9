package contract

import (
	"iter"
	"slices"

	"novation/api"
)

// nodes visits the nodes of a tree from the root on, from left to right, each with its level, which is 1 for the root. A caller that stops soon is fast however large the tree is.
func nodes[T any](root T, below func(T) []T) iter.Seq2[int, T] {
	return func(yield func(int, T) bool) {
		var visit func(level int, node T) bool
		visit = func(level int, node T) bool {
			if !yield(level, node) {
				return false
			}
			for _, part := range below(node) {
				if !visit(level+1, part) {
					return false
				}
			}
			return true
		}
		visit(1, root)
	}
}

// contracts visits the nodes of a contract without those of its expressions.
func contracts(c api.Contract) iter.Seq2[int, api.Contract] {
	return nodes(c, func(c api.Contract) []api.Contract { return c.Sub })
}

// expressions visits the nodes of an expression; the zero one has none.
func expressions(x api.Expr) iter.Seq2[int, api.Expr] {
	if isZero(x) {
		return func(func(int, api.Expr) bool) {}
	}
	return nodes(x, func(x api.Expr) []api.Expr { return x.Sub })
}

// levels visits the levels of all nodes of a contract and of its expressions, which stand below the contracts that have them.
func levels(c api.Contract) iter.Seq[int] {
	return func(yield func(int) bool) {
		for level, node := range contracts(c) {
			if !yield(level) {
				return
			}
			for further := range expressions(node.Expr) {
				if !yield(level + further) {
					return
				}
			}
		}
	}
}

// fits tells whether c has at most MaxNodes nodes and is at most MaxDepth deep. It stops at the first node too many, so that it ends soon whatever c is.
func fits(c api.Contract) bool {
	room := api.MaxNodes
	for level := range levels(c) {
		room--
		if room < 0 || level > api.MaxDepth {
			return false
		}
	}
	return true
}

// names returns the names that of gives for the nodes of c, each once, in increasing order; "" is none. It returns Check's error.
func names(c api.Contract, of func(api.Contract) []string) ([]string, api.Errno) {
	if e := Check(c); e != api.OK {
		return nil, e
	}
	var l []string
	for _, node := range contracts(c) {
		for _, s := range of(node) {
			if s != "" {
				l = append(l, s)
			}
		}
	}
	slices.Sort(l)
	return slices.Compact(l), api.OK
}
