package algebra

// A rule returns what it makes of a node whose parts are simplified, and whether it applies.
type rule[T any] func(node T) (result T, applies bool)

// A table has a function for each kind of node that has rules.
type table[T any] map[uint8]func(T) T

// use returns a node of a kind after the first rule that applies.
func (t table[T]) use(kind uint8, node T) T {
	if simplified, there := t[kind]; there {
		return simplified(node)
	}
	return node
}

// first returns the function that uses the first rule that applies, once.
func first[T any](choices ...rule[T]) func(T) T {
	return func(node T) T {
		for _, choice := range choices {
			if result, applies := choice(node); applies {
				return result
			}
		}
		return node
	}
}

// when returns the rule that applies where a condition holds.
func when[T any](holds func(T) bool, result func(T) T) rule[T] {
	return func(node T) (T, bool) {
		if !holds(node) {
			return node, false
		}
		return result(node), true
	}
}

// A language has what conditions and results of rules are made from.
type language[T any] struct {
	parts func(T) []T
	same  func(a, b T) bool
	twin  func(T) T
}

// is returns the condition that a part is a given node.
func (l language[T]) is(place int, given T) func(T) bool {
	return func(node T) bool { return l.same(l.parts(node)[place], given) }
}

// alike returns the condition that two parts are the same.
func (l language[T]) alike(place, other int) func(T) bool {
	return func(node T) bool { return l.same(l.parts(node)[place], l.parts(node)[other]) }
}

// part returns the result that is a part.
func (l language[T]) part(place int) func(T) T {
	return func(node T) T { return l.parts(node)[place] }
}

// always returns the result that is a copy of a given node, as a rule may be used in several places of one tree.
func (l language[T]) always(given T) func(T) T {
	return func(T) T { return l.twin(given) }
}
