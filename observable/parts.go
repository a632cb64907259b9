package observable

import (
	"novation/api"
	"novation/rational"
)

// A sort is what the value of an expression is.
type sort uint8

const (
	none sort = iota // kinds that do not exist
	number
	truth
)

func sortOf(x api.Expr) sort {
	switch {
	case api.ExprConst <= x.Kind && x.Kind <= api.ExprWhen:
		return number
	case api.ExprLess <= x.Kind && x.Kind <= api.ExprNot:
		return truth
	}
	return none
}

// partsOf returns the sorts of the parts that an expression of a kind must have.
func partsOf(kind uint8) []sort {
	switch kind {
	case api.ExprAdd, api.ExprSub, api.ExprMul, api.ExprMax, api.ExprMin, api.ExprLess, api.ExprEqual:
		return []sort{number, number}
	case api.ExprWhen:
		return []sort{truth, number, number}
	case api.ExprAnd, api.ExprOr:
		return []sort{truth, truth}
	case api.ExprNot:
		return []sort{truth}
	}
	return nil
}

// fits tells whether x is at most depth deep and has at most room nodes, which it takes away. It stops at the first node too many, so that it ends soon whatever x is.
func fits(x api.Expr, depth int, room *int) bool {
	*room--
	if depth == 0 || *room < 0 {
		return false
	}
	for _, part := range x.Sub {
		if !fits(part, depth-1, room) {
			return false
		}
	}
	return true
}

func wellFormed(x api.Expr) bool {
	return sortOf(x) != none && hasFields(x) && hasParts(x.Sub, partsOf(x.Kind))
}

// hasFields tells whether the fields that the kind of x has are valid, and the other ones zero.
func hasFields(x api.Expr) bool {
	switch x.Kind {
	case api.ExprConst:
		return rational.Check(x.Rat) == api.OK && x.Name == "" && x.Date == 0
	case api.ExprFix:
		return x.Rat == "" && Name(x.Name) && isDay(x.Date)
	case api.ExprNow:
		return x.Rat == "" && Name(x.Name) && x.Date == 0
	}
	return x.Rat == "" && x.Name == "" && x.Date == 0
}

// hasParts tells whether parts are well-formed and of the given sorts.
func hasParts(parts []api.Expr, sorts []sort) bool {
	if len(parts) != len(sorts) {
		return false
	}
	for i, part := range parts {
		if sortOf(part) != sorts[i] || !wellFormed(part) {
			return false
		}
	}
	return true
}

func isLetter(c byte) bool {
	return 'a' <= c && c <= 'z' || 'A' <= c && c <= 'Z'
}

func isDigit(c byte) bool {
	return '0' <= c && c <= '9'
}

func isDay(n int) bool {
	return 0 <= n && n <= api.MaxDate
}
