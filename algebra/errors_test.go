package algebra_test

import (
	"slices"
	"testing"

	"novation/algebra"
	"novation/api"
	"novation/contract"
	"novation/observable"
)

// P11.1: errors

// badExprs are expressions that are not well-formed, with at most 5 nodes, and not zero.
func badExprs() []api.Expr {
	l := []api.Expr{
		{Kind: api.ExprConst}, {Kind: 10}, {Kind: 16}, {Kind: 255}, {Rat: "1"}, {Name: "a"}, {Date: 1}, {Date: -1}, {Sub: []api.Expr{{}}},
		con(""), con("x"), con("2/4"), con("-0"), con("00"), con("1/1"), con(tens(api.MaxDigits)), {Kind: api.ExprConst, Rat: "1", Name: "a"}, {Kind: api.ExprConst, Rat: "0", Date: 1}, {Kind: api.ExprConst, Rat: "0", Sub: []api.Expr{con("0")}},
		{Kind: api.ExprNow, Name: "a", Date: 1}, {Kind: api.ExprFix, Name: "a", Rat: "0"},
		expr(api.ExprAdd), expr(api.ExprAdd, con("0")), expr(api.ExprMul, con("0"), con("0"), con("0")), expr(api.ExprMul, yes(), con("0")), expr(api.ExprMul, con("0"), yes()), expr(api.ExprAdd, con("0"), api.Expr{}), expr(api.ExprMul, api.Expr{}, con("0")), expr(api.ExprLess, con("1")), expr(api.ExprLess, con("1"), yes()), expr(api.ExprEqual, yes(), yes()), expr(api.ExprNot, con("1")), expr(api.ExprNot), expr(api.ExprNot, api.Expr{}), not(expr(api.ExprNot)), expr(api.ExprAnd, no(), con("0")), expr(api.ExprOr, yes(), x), expr(api.ExprAnd), expr(api.ExprOr, yes()), expr(api.ExprWhen, yes(), x), expr(api.ExprWhen, yes(), x, p), expr(api.ExprWhen, x, x, x), expr(api.ExprWhen, no(), con("x"), y),
	}
	for kind := range uint8(17) {
		if kind < api.ExprAdd || kind > api.ExprNot {
			l = append(l, expr(kind, con("0"), con("0")))
		} else {
			l = append(l, expr(kind, con("0")), expr(kind, con("0"), con("0"), con("0"), con("0")), api.Expr{Kind: kind, Rat: "0", Sub: []api.Expr{con("0"), con("0")}}, api.Expr{Kind: kind, Name: "a", Sub: []api.Expr{yes(), yes()}}, api.Expr{Kind: kind, Date: 1, Sub: []api.Expr{con("0"), con("0")}})
		}
	}
	for _, name := range noNames {
		l = append(l, now(name), fix(name, 1))
	}
	for _, date := range noDays {
		l = append(l, fix("a", date))
	}
	return slices.Clip(l)
}

// largeExprs are expressions that are too large or too deep, some of which are not well-formed as well.
func largeExprs() []api.Expr {
	return []api.Expr{
		nots(p, 59), nots(p, 60000), nots(api.Expr{Kind: 255}, 60), sum("s", 251), sub(sum("s", 125), sum("s", 126)), mul(con("0"), sum("s", 250)), mul(con("x"), sum("s", 250)), add(sum("", 125), sum("s", 126)), {Sub: make([]api.Expr, 500)}, {Kind: api.ExprAdd, Sub: make([]api.Expr, 100000)},
	}
}

func checkExprError(t *testing.T, x api.Expr, want api.Errno) {
	t.Helper()
	if e := observable.Check(x); e != want {
		t.Errorf("Check(%s) = %d, not %d", short(x), e, want)
	}
	if y, e := algebra.Expression(x); e != want || e != api.OK && !alike(y, api.Expr{}) {
		t.Errorf("Expression(%s) = %s, %d, not %d", short(x), short(y), e, want)
	}
}

// TestBadExpressions has them alone, and in places in which a rule would take them away.
func TestBadExpressions(t *testing.T) {
	checkExprError(t, api.Expr{}, api.ErrBad)
	for want, l := range map[api.Errno][]api.Expr{api.ErrBad: badExprs(), api.ErrMany: largeExprs()} {
		for _, z := range l {
			checkExprError(t, z, want)
			for _, whole := range []api.Expr{add(con("0"), z), mul(con("0"), z), mul(z, con("0")), sub(z, z), cond(yes(), x, z), cond(no(), z, x), and(no(), z), or(z, yes()), not(not(z)), equal(z, z)} {
				checkExprError(t, whole, want)
			}
		}
	}
}

// TestLimitsOfExpressions has the greatest size and depth, and one more.
func TestLimitsOfExpressions(t *testing.T) {
	half := sum("s", 124) // 247 nodes
	for _, k := range []struct {
		x    api.Expr
		want api.Errno
	}{
		{nots(p, 58), api.OK}, {nots(p, 59), api.ErrMany}, {sum("s", 250), api.OK}, {sum("s", 251), api.ErrMany},
		{cond(not(not(p)), half, half), api.OK}, {cond(nots(p, 3), half, half), api.ErrMany}, {nots(equal(half, add(half, con("0"))), 3), api.OK}, {nots(equal(half, add(half, con("0"))), 4), api.ErrMany},
	} {
		checkExprError(t, k.x, k.want)
	}
}

// badContracts are contracts that are not well-formed.
func badContracts() []api.Contract {
	l := []api.Contract{
		{}, {Kind: 11}, {Kind: 255}, of(api.ConBoth), of(api.ConBoth, one()), of(api.ConBoth, one(), one(), one()), of(api.ConZero, zero()), of(api.ConScale, one()), of(api.ConIf, one(), one()), of(api.ConAt), of(api.ConAt, one(), one()), of(api.ConPick, one(), one()), of(api.ConCall, one()), of(api.ConUntil, one()), of(api.ConWhen, one()),
		{Kind: api.ConZero, Expr: con("0")}, {Kind: api.ConZero, Date: 1}, {Kind: api.ConZero, Dates: []int{1}}, {Kind: api.ConZero, From: "Ann"}, {Kind: api.ConPay, From: "Ann", To: "Bob", Name: "USD"}, pay(yes()), pay(api.Expr{}), paid("Ann", "Ann", "USD", con("0")), paid("", "Bob", "USD", con("0")), paid("Ann", "", "USD", con("0")), paid("Ann", "Bob", "", con("0")),
		scale(yes(), zero()), scale(con("2/4"), zero()), branch(con("1"), c, c), branch(api.Expr{}, c, c), pick("", "side", c, c), pick("Ann", "", c, c), until(con("0"), dates, zero()), until(no(), nil, c), until(no(), []int{}, zero()), when(no(), nil, c), when(no(), []int{2, 2}, zero()), when(no(), []int{3, 2}, c), call("Ann", "right", nil, zero()), call("Ann", "right", make([]int, 101), zero()), call("Ann", "", dates, zero()), call("", "right", dates, zero()),
	}
	for _, z := range append(badExprs(), api.Expr{}) {
		l = append(l, pay(z), scale(z, zero()), branch(z, c, c), until(z, dates, zero()), when(z, dates, zero()))
	}
	for _, name := range noNames {
		l = append(l, paid(name, "Bob", "USD", con("0")), paid("Ann", name, "USD", con("0")), paid("Ann", "Bob", name, con("0")), pick(name, "side", c, c), pick("Ann", name, c, c), call(name, "right", dates, zero()), call("Ann", name, dates, zero()))
	}
	for _, date := range noDays {
		l = append(l, at(date, zero()), at(date, at(0, c)), call("Ann", "right", []int{date}, zero()), until(no(), []int{date}, c), when(no(), []int{date}, c))
	}
	return slices.Clip(l)
}

// largeContracts are contracts that are too large or too deep, some of which are not well-formed as well.
func largeContracts() []api.Contract {
	deep := api.Contract{}
	for range api.MaxDepth {
		deep = at(0, deep)
	}
	return []api.Contract{
		deep, pay(nots(p, 58)), pay(nots(p, 60000)), pay(sum("s", 251)), pay(mul(con("x"), sum("s", 250))), balanced(168), both(api.Contract{}, balanced(167)), both(balanced(167), api.Contract{}), {Sub: make([]api.Contract, 500)}, {Kind: api.ConBoth, Sub: make([]api.Contract, 100000)},
	}
}

func checkContractError(t *testing.T, a api.Contract, want api.Errno) {
	t.Helper()
	if e := contract.Check(a); e != want {
		t.Errorf("Check(%s) = %d, not %d", short(a), e, want)
	}
	if b, e := algebra.Simplify(a); e != want || e != api.OK && !alikeContracts(b, api.Contract{}) {
		t.Errorf("Simplify(%s) = %s, %d, not %d", short(a), short(b), e, want)
	}
	checkEqualError(t, a, a, want)
	checkEqualError(t, zero(), a, want)
	checkEqualError(t, a, one(), want)
}

func checkEqualError(t *testing.T, a, b api.Contract, want api.Errno) {
	t.Helper()
	if is, e := algebra.Equal(a, b); e != want || e != api.OK && is {
		t.Errorf("Equal(%s, %s) = %v, %d, not %d", short(a), short(b), is, e, want)
	}
}

// TestBadContracts has them alone, and in places in which a rule would take them away.
func TestBadContracts(t *testing.T) {
	for want, l := range map[api.Errno][]api.Contract{api.ErrBad: badContracts(), api.ErrMany: largeContracts()} {
		for _, a := range l {
			checkContractError(t, a, want)
			for _, whole := range []api.Contract{both(zero(), a), both(a, zero()), scale(con("0"), a), scale(con("1"), a), branch(yes(), zero(), a), branch(no(), a, zero()), branch(p, a, a), at(5, at(4, a)), pick("Ann", "side", a, a), until(no(), dates, a), when(no(), dates, a)} {
				checkContractError(t, whole, want)
			}
		}
	}
}

// TestLimitsOfContracts has the greatest size and depth, and one more.
func TestLimitsOfContracts(t *testing.T) {
	half := balanced(83) // 248 nodes
	deep := zero()
	for range 59 {
		deep = at(0, deep)
	}
	for _, k := range []struct {
		a    api.Contract
		want api.Errno
	}{
		{deep, api.OK}, {at(0, deep), api.ErrMany}, {pay(sum("s", 250)), api.OK}, {pay(add(con("0"), sum("s", 250))), api.ErrMany}, {balanced(167), api.OK}, {balanced(168), api.ErrMany},
		{both(both(half, zero()), at(5, half)), api.OK}, {both(both(half, zero()), at(5, at(4, half))), api.ErrMany}, {both(half, both(half, zero())), api.OK}, {both(both(half, zero()), both(half, zero())), api.ErrMany},
		{branch(nots(p, 57), c, d), api.OK}, {branch(nots(p, 58), c, d), api.ErrMany}, {until(nots(no(), 57), dates, c), api.OK}, {when(nots(no(), 58), dates, c), api.ErrMany},
	} {
		checkContractError(t, k.a, k.want)
	}
}

// TestFirstErrorOfEqual has two contracts with different errors.
func TestFirstErrorOfEqual(t *testing.T) {
	bad, large := badContracts(), largeContracts()
	for i, a := range bad {
		b := large[i%len(large)]
		checkEqualError(t, a, b, api.ErrBad)
		checkEqualError(t, b, a, api.ErrMany)
		checkEqualError(t, a, bad[(i+7)%len(bad)], api.ErrBad)
	}
}
