package algebra_test

import (
	"slices"
	"testing"

	"novation/algebra"
	"novation/api"
	"novation/rational"
)

// The model goes through the document's tables rule by rule, with its own comparison of trees.

// alike compares expressions field by field.
func alike(x, y api.Expr) bool {
	if x.Kind != y.Kind || x.Rat != y.Rat || x.Name != y.Name || x.Date != y.Date || len(x.Sub) != len(y.Sub) {
		return false
	}
	for i := range x.Sub {
		if !alike(x.Sub[i], y.Sub[i]) {
			return false
		}
	}
	return true
}

// alikeContracts compares contracts field by field.
func alikeContracts(c, d api.Contract) bool {
	if c.Kind != d.Kind || c.From != d.From || c.To != d.To || c.Name != d.Name || !alike(c.Expr, d.Expr) || c.Date != d.Date || !slices.Equal(c.Dates, d.Dates) || len(c.Sub) != len(d.Sub) {
		return false
	}
	for i := range c.Sub {
		if !alikeContracts(c.Sub[i], d.Sub[i]) {
			return false
		}
	}
	return true
}

func isCon(x api.Expr, a api.Rat) bool {
	return x.Kind == api.ExprConst && x.Rat == a
}

func isYes(x api.Expr) bool {
	return x.Kind == api.ExprEqual && isCon(x.Sub[0], "0") && isCon(x.Sub[1], "0")
}

func isNo(x api.Expr) bool {
	return x.Kind == api.ExprLess && isCon(x.Sub[0], "0") && isCon(x.Sub[1], "0")
}

func truthOf(is bool) api.Expr {
	if is {
		return yes()
	}
	return no()
}

// simple returns a valid expression simplified.
func simple(x api.Expr) api.Expr {
	var l []api.Expr
	for _, part := range x.Sub {
		l = append(l, simple(part))
	}
	x.Sub = l
	switch {
	case x.Kind <= api.ExprNow:
		return x
	case x.Kind <= api.ExprMin:
		return simpleNumber(x, l[0], l[1])
	case x.Kind == api.ExprWhen:
		switch {
		case isYes(l[0]):
			return l[1]
		case isNo(l[0]):
			return l[2]
		case alike(l[1], l[2]):
			return l[1]
		}
		return x
	case x.Kind <= api.ExprEqual:
		return simpleComparison(x, l[0], l[1])
	case x.Kind == api.ExprNot:
		switch {
		case isYes(l[0]):
			return no()
		case isNo(l[0]):
			return yes()
		case l[0].Kind == api.ExprNot:
			return l[0].Sub[0]
		}
		return x
	}
	return simpleTruth(x, l[0], l[1])
}

// valueOf returns what an operation on two constants gives, if it has no error.
func valueOf(kind uint8, a, b api.Rat) (api.Rat, api.Errno) {
	switch kind {
	case api.ExprAdd:
		return rational.Add(a, b)
	case api.ExprSub:
		return rational.Sub(a, b)
	case api.ExprMul:
		return rational.Mul(a, b)
	}
	order, e := rational.Compare(a, b)
	if order > 0 == (kind == api.ExprMax) {
		return a, e
	}
	return b, e
}

func simpleNumber(x, a, b api.Expr) api.Expr {
	if a.Kind == api.ExprConst && b.Kind == api.ExprConst {
		if value, e := valueOf(x.Kind, a.Rat, b.Rat); e == api.OK {
			return con(value)
		}
	}
	switch k := x.Kind; {
	case k == api.ExprAdd && isCon(a, "0"), k == api.ExprMul && isCon(a, "1"), k == api.ExprMul && isCon(b, "0"):
		return b
	case k == api.ExprAdd && isCon(b, "0"), k == api.ExprSub && isCon(b, "0"), k == api.ExprMul && isCon(b, "1"), k == api.ExprMul && isCon(a, "0"):
		return a
	case k == api.ExprSub && alike(a, b):
		return con("0")
	case k >= api.ExprMax && alike(a, b):
		return a
	}
	return x
}

func simpleComparison(x, a, b api.Expr) api.Expr {
	if a.Kind == api.ExprConst && b.Kind == api.ExprConst {
		if order, e := rational.Compare(a.Rat, b.Rat); e == api.OK {
			return truthOf(order < 0 && x.Kind == api.ExprLess || order == 0 && x.Kind == api.ExprEqual)
		}
	}
	if alike(a, b) {
		return truthOf(x.Kind == api.ExprEqual)
	}
	return x
}

func simpleTruth(x, p, q api.Expr) api.Expr {
	neutral, strong := isYes, isNo
	if x.Kind == api.ExprOr {
		neutral, strong = isNo, isYes
	}
	switch {
	case neutral(p), strong(q):
		return q
	case neutral(q), strong(p), alike(p, q):
		return p
	}
	return x
}

// simpleContract returns a valid contract simplified.
func simpleContract(c api.Contract) api.Contract {
	c.Expr = simple(c.Expr)
	var l []api.Contract
	for _, part := range c.Sub {
		l = append(l, simpleContract(part))
	}
	c.Sub = l
	is := func(i int, kind uint8) bool { return i < len(l) && l[i].Kind == kind }
	switch c.Kind {
	case api.ConPay:
		if isCon(c.Expr, "0") {
			return zero()
		}
	case api.ConBoth:
		if is(0, api.ConZero) {
			return l[1]
		} else if is(1, api.ConZero) {
			return l[0]
		}
	case api.ConScale:
		return simpleScale(c)
	case api.ConIf, api.ConPick:
		p := c.Kind == api.ConIf
		if p && isNo(c.Expr) {
			return l[1]
		} else if p && isYes(c.Expr) || alikeContracts(l[0], l[1]) {
			return l[0]
		}
	default:
		if is(0, api.ConZero) || is(0, api.ConAt) && c.Kind == api.ConAt && l[0].Date < c.Date || c.Kind == api.ConWhen && isNo(c.Expr) {
			return zero()
		} else if c.Kind == api.ConUntil && isNo(c.Expr) {
			return l[0]
		}
	}
	return c
}

func simpleScale(c api.Contract) api.Contract {
	part := c.Sub[0]
	switch {
	case isCon(c.Expr, "0") || part.Kind == api.ConZero:
		return zero()
	case isCon(c.Expr, "1"):
		return part
	case c.Expr.Kind == api.ExprConst && part.Kind == api.ConPay && part.Expr.Kind == api.ExprConst:
		if product, e := rational.Mul(part.Expr.Rat, c.Expr.Rat); e == api.OK {
			return paid(part.From, part.To, part.Name, con(product))
		}
	}
	return c
}

// checkExpr checks an expression simplified against the one wanted, and the one of the model.
func checkExpr(t *testing.T, x, want api.Expr) {
	t.Helper()
	if y, e := algebra.Expression(x); e != api.OK || !alike(y, want) {
		t.Errorf("Expression(%s) = %s, %d, not %s", short(x), short(y), e, short(want))
	}
	if y := simple(x); !alike(y, want) {
		t.Errorf("the model of %s is %s, not %s", short(x), short(y), short(want))
	}
}

// checkContract checks a contract simplified against the one wanted, and the one of the model.
func checkContract(t *testing.T, c, want api.Contract) {
	t.Helper()
	if d, e := algebra.Simplify(c); e != api.OK || !alikeContracts(d, want) {
		t.Errorf("Simplify(%s) = %s, %d, not %s", short(c), short(d), e, short(want))
	}
	if d := simpleContract(c); !alikeContracts(d, want) {
		t.Errorf("the model of %s is %s, not %s", short(c), short(d), short(want))
	}
}
