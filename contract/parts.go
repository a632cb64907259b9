package contract

import (
	"novation/api"
	"novation/observable"
)

// parts are what a contract must have beside its kind, a bit for each; all other fields must be zero.
type parts uint16

const (
	from parts = 1 << iota
	to
	name
	number // an Expr that is a number
	truth  // an Expr that is a truth value
	date
	dates
	one // contract
	two // contracts
)

// partsOf returns the parts of a kind, and whether there is such a kind.
func partsOf(kind uint8) (p parts, exists bool) {
	switch kind {
	case api.ConZero:
		return 0, true
	case api.ConPay:
		return from | to | name | number, true
	case api.ConBoth:
		return two, true
	case api.ConScale:
		return number | one, true
	case api.ConIf:
		return truth | two, true
	case api.ConAt:
		return date | one, true
	case api.ConPick:
		return from | name | two, true
	case api.ConCall:
		return from | name | dates | one, true
	case api.ConUntil, api.ConWhen:
		return truth | dates | one, true
	}
	return 0, false
}

// wellFormed tells whether a node is, apart from those below it.
func wellFormed(c api.Contract) bool {
	p, exists := partsOf(c.Kind)
	return exists && p.haveNames(c) && p.haveExpr(c.Expr) && p.haveDays(c) && len(c.Sub) == p.below()
}

// with tells whether a part is among p.
func (p parts) with(part parts) bool {
	return p&part != 0
}

func (p parts) haveNames(c api.Contract) bool {
	return isName(c.From, p.with(from)) && isName(c.To, p.with(to)) && isName(c.Name, p.with(name)) && !(p.with(to) && c.From == c.To)
}

func (p parts) haveExpr(x api.Expr) bool {
	switch {
	case p.with(number):
		return observable.Number(x)
	case p.with(truth):
		return observable.Truth(x)
	}
	return isZero(x)
}

func (p parts) haveDays(c api.Contract) bool {
	if c.Date != 0 && !(p.with(date) && isDay(c.Date)) {
		return false
	}
	if !p.with(dates) {
		return len(c.Dates) == 0
	}
	return isListOfDays(c.Dates)
}

// below returns how many contracts there must be.
func (p parts) below() int {
	switch {
	case p.with(two):
		return 2
	case p.with(one):
		return 1
	}
	return 0
}

// isName tells whether s is a name if there must be one, and otherwise empty.
func isName(s string, needed bool) bool {
	if needed {
		return observable.Name(s)
	}
	return s == ""
}

// isZero tells whether x is no expression at all; an empty list is none.
func isZero(x api.Expr) bool {
	return observable.Same(x, api.Expr{})
}

func isDay(n int) bool {
	return 0 <= n && n <= api.MaxDate
}

// isListOfDays tells whether l has 1 to MaxDates days in strictly increasing order.
func isListOfDays(l []int) bool {
	if len(l) == 0 || len(l) > api.MaxDates {
		return false
	}
	for i, day := range l {
		if !isDay(day) || i > 0 && l[i-1] >= day {
			return false
		}
	}
	return true
}
