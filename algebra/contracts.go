package algebra

import (
	"novation/api"
	"novation/contract"
	"novation/observable"
	"novation/rational"
)

func contractRules() table[api.Contract] {
	l := language[api.Contract]{func(c api.Contract) []api.Contract { return c.Sub }, contract.Same, contract.Twin}
	zero := api.Contract{Kind: api.ConZero}
	ofZero := when(l.is(0, zero), l.always(zero))
	yes, no := has(truth(true)), has(truth(false))
	return table[api.Contract]{
		api.ConPay:   first(when(has(constant("0")), l.always(zero))),
		api.ConBoth:  first(when(l.is(0, zero), l.part(1)), when(l.is(1, zero), l.part(0))),
		api.ConScale: first(when(has(constant("0")), l.always(zero)), when(has(constant("1")), l.part(0)), ofZero, multiplied),
		api.ConIf:    first(when(yes, l.part(0)), when(no, l.part(1)), when(l.alike(0, 1), l.part(0))),
		api.ConAt:    first(ofZero, when(isTooLate, l.always(zero))),
		api.ConPick:  first(when(l.alike(0, 1), l.part(0))),
		api.ConCall:  first(ofZero),
		api.ConUntil: first(ofZero, when(no, l.part(0))),
		api.ConWhen:  first(ofZero, when(no, l.always(zero))),
	}
}

// has returns the condition that a contract has a given expression.
func has(x api.Expr) func(api.Contract) bool {
	return func(c api.Contract) bool { return observable.Same(c.Expr, x) }
}

// isTooLate tells whether what is below is to be acquired before it can be.
func isTooLate(c api.Contract) bool {
	return c.Sub[0].Kind == api.ConAt && c.Sub[0].Date < c.Date
}

// multiplied is the rule for a payment of a constant that is scaled by a constant, if their product is not too long.
func multiplied(c api.Contract) (api.Contract, bool) {
	pay := c.Sub[0]
	if c.Expr.Kind != api.ExprConst || pay.Kind != api.ConPay || pay.Expr.Kind != api.ExprConst {
		return c, false
	}
	product, e := rational.Mul(pay.Expr.Rat, c.Expr.Rat)
	pay.Expr = constant(product)
	return pay, e == api.OK
}
