package observable

import (
	"novation/api"
	"novation/rational"
)

// A pair is the values of the two numbers of an expression.
type pair struct {
	a, b api.Rat
}

// operations are those that make a number of two numbers, by the kinds of their expressions.
func operations() map[uint8]func(pair) (api.Rat, api.Errno) {
	return map[uint8]func(pair) (api.Rat, api.Errno){
		api.ExprAdd: pair.sum,
		api.ExprSub: pair.difference,
		api.ExprMul: pair.product,
		api.ExprMax: pair.greater,
		api.ExprMin: pair.smaller,
	}
}

// comparisons are those that make a truth value of two numbers, by the kinds of their expressions.
func comparisons() map[uint8]func(pair) (bool, api.Errno) {
	return map[uint8]func(pair) (bool, api.Errno){
		api.ExprLess:  pair.less,
		api.ExprEqual: pair.equal,
	}
}

func (p pair) sum() (api.Rat, api.Errno) {
	return rational.Add(p.a, p.b)
}

func (p pair) difference() (api.Rat, api.Errno) {
	return rational.Sub(p.a, p.b)
}

func (p pair) product() (api.Rat, api.Errno) {
	return rational.Mul(p.a, p.b)
}

func (p pair) greater() (api.Rat, api.Errno) {
	order, e := rational.Compare(p.a, p.b)
	switch {
	case e != api.OK:
		return "", e
	case order < 0:
		return p.b, api.OK
	}
	return p.a, api.OK
}

func (p pair) smaller() (api.Rat, api.Errno) {
	order, e := rational.Compare(p.a, p.b)
	switch {
	case e != api.OK:
		return "", e
	case order > 0:
		return p.b, api.OK
	}
	return p.a, api.OK
}

func (p pair) less() (bool, api.Errno) {
	order, e := rational.Compare(p.a, p.b)
	return e == api.OK && order < 0, e
}

// equal asks layer 2 as well, so that it has the same errors as less.
func (p pair) equal() (bool, api.Errno) {
	order, e := rational.Compare(p.a, p.b)
	return e == api.OK && order == 0, e
}
