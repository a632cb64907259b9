package algebra

import (
	"novation/api"
	"novation/observable"
)

func expressionRules() table[api.Expr] {
	l := language[api.Expr]{func(x api.Expr) []api.Expr { return x.Sub }, observable.Same, observable.Twin}
	zero, one := constant("0"), constant("1")
	yes, no := truth(true), truth(false)
	return table[api.Expr]{
		api.ExprAdd: first(calculated, when(l.is(0, zero), l.part(1)), when(l.is(1, zero), l.part(0))),
		api.ExprSub: first(calculated, when(l.is(1, zero), l.part(0)), when(l.alike(0, 1), l.always(zero))),
		api.ExprMul: first(calculated,
			when(l.is(0, zero), l.part(0)), when(l.is(1, zero), l.part(1)),
			when(l.is(0, one), l.part(1)), when(l.is(1, one), l.part(0))),
		api.ExprMax:   first(calculated, when(l.alike(0, 1), l.part(0))),
		api.ExprMin:   first(calculated, when(l.alike(0, 1), l.part(0))),
		api.ExprLess:  first(compared, when(l.alike(0, 1), l.always(no))),
		api.ExprEqual: first(compared, when(l.alike(0, 1), l.always(yes))),
		api.ExprNot:   first(when(l.is(0, yes), l.always(no)), when(l.is(0, no), l.always(yes)), negatedTwice),
		api.ExprAnd: first(
			when(l.is(0, yes), l.part(1)), when(l.is(1, yes), l.part(0)),
			when(l.is(0, no), l.part(0)), when(l.is(1, no), l.part(1)), when(l.alike(0, 1), l.part(0))),
		api.ExprOr: first(
			when(l.is(0, no), l.part(1)), when(l.is(1, no), l.part(0)),
			when(l.is(0, yes), l.part(0)), when(l.is(1, yes), l.part(1)), when(l.alike(0, 1), l.part(0))),
		api.ExprWhen: first(when(l.is(0, yes), l.part(1)), when(l.is(0, no), l.part(2)), when(l.alike(1, 2), l.part(1))),
	}
}

func constant(a api.Rat) api.Expr {
	return api.Expr{Kind: api.ExprConst, Rat: a}
}

// truth returns the expression that stands for a truth value.
func truth(is bool) api.Expr {
	kind := api.ExprLess
	if is {
		kind = api.ExprEqual
	}
	return api.Expr{Kind: kind, Sub: []api.Expr{constant("0"), constant("0")}}
}

// calculated is the rule for an operation on two constants that has a value.
func calculated(x api.Expr) (api.Expr, bool) {
	if !ofConstants(x) {
		return x, false
	}
	value, e := observable.Value(x, 0, api.Env{})
	return constant(value), e == api.OK
}

// compared is the rule for a comparison of two constants that has a value.
func compared(x api.Expr) (api.Expr, bool) {
	if !ofConstants(x) {
		return x, false
	}
	is, e := observable.Holds(x, 0, api.Env{})
	return truth(is), e == api.OK
}

func ofConstants(x api.Expr) bool {
	return x.Sub[0].Kind == api.ExprConst && x.Sub[1].Kind == api.ExprConst
}

func negatedTwice(x api.Expr) (api.Expr, bool) {
	if x.Sub[0].Kind != api.ExprNot {
		return x, false
	}
	return x.Sub[0].Sub[0], true
}
