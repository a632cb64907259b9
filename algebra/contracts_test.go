package algebra_test

import (
	"math/rand"
	"slices"
	"testing"

	"novation/api"
)

// P11.1: Simplify

// A contractChange is what becomes of a contract.
type contractChange struct {
	from, to api.Contract
}

// c and d are contracts in which nothing can be simplified.
var c, d = pay(x), pick("Bob", "side", at(2, one()), paid("Cid", "Ann", "EUR", y))

var dates = []int{3, 5}

// contractChanges are by the rules of the document's table, each rule alone.
func contractChanges() []contractChange {
	return []contractChange{
		{pay(con("0")), zero()},
		{both(zero(), c), c}, {both(c, zero()), c},
		{scale(con("0"), c), zero()}, {scale(con("1"), c), c}, {scale(x, zero()), zero()}, {scale(con("2"), pay(con("3"))), pay(con("6"))}, {scale(con("-1/2"), paid("Cid", "Ann", "EUR", con("2/3"))), paid("Cid", "Ann", "EUR", con("-1/3"))}, {scale(con("-3"), paid("Bob", "Cid", "JPY", con("-1/3"))), paid("Bob", "Cid", "JPY", con("1"))},
		{branch(yes(), c, d), c}, {branch(no(), c, d), d}, {branch(p, c, c), c},
		{at(5, zero()), zero()}, {at(5, at(4, c)), zero()}, {at(api.MaxDate, at(0, c)), zero()}, {at(1, at(0, c)), zero()},
		{pick("Ann", "side", d, d), d},
		{call("Ann", "right", dates, zero()), zero()},
		{until(p, dates, zero()), zero()}, {until(no(), dates, c), c},
		{when(p, dates, zero()), zero()}, {when(no(), dates, c), zero()},
	}
}

func TestRulesForContracts(t *testing.T) {
	for _, k := range contractChanges() {
		checkContract(t, k.from, k.to)
	}
}

// TestNoRuleForContracts has contracts that stay as they are.
func TestNoRuleForContracts(t *testing.T) {
	for _, a := range []api.Contract{
		zero(), one(), c, d, pay(con("-1/2")), pay(sub(con("0"), x)), both(c, d), both(c, c), both(one(), one()), both(c, both(d, c)), both(both(c, d), c),
		scale(x, c), scale(con("2"), c), scale(con("-1"), c), scale(con("-1"), d), scale(x, one()), scale(x, pay(con("3"))), scale(con("2"), pay(x)), scale(con("2"), pay(sub(con("0"), x))), scale(con("2"), both(one(), one())), scale(con("2"), scale(x, one())), scale(con("2"), scale(con("3"), c)), scale(con("1/2"), at(5, one())), scale(x, scale(x, c)), scale(con("2"), branch(p, one(), zero())),
		branch(p, c, d), branch(p, zero(), c), branch(p, c, zero()), branch(not(p), c, d), branch(p, branch(p, c, d), c),
		at(5, c), at(0, c), at(api.MaxDate, d), at(5, at(5, c)), at(5, at(6, c)), at(0, at(0, c)), at(0, at(api.MaxDate, c)), at(5, both(at(4, c), c)), at(5, scale(x, at(4, c))), at(5, pick("Ann", "side", at(4, c), c)), at(5, until(p, dates, at(4, c))), at(5, when(p, []int{2}, c)), at(5, call("Ann", "right", []int{2}, c)), at(5, at(6, at(6, c))),
		pick("Ann", "side", c, d), pick("Ann", "side", zero(), d), pick("Ann", "side", d, zero()), pick("Ann", "side", pick("Ann", "side", c, d), c),
		call("Ann", "right", dates, c), call("Ann", "right", dates, at(0, c)), call("Ann", "right", dates, call("Ann", "right", dates, c)),
		until(p, dates, c), until(yes(), dates, c), until(not(p), dates, c), until(p, dates, until(p, dates, c)), until(yes(), []int{0}, c),
		when(p, dates, c), when(yes(), dates, c), when(yes(), []int{0}, c), when(not(p), dates, c), when(p, dates, when(p, dates, c)), when(yes(), dates, at(0, c)),
	} {
		checkContract(t, a, a)
	}
}

// TestSeveralRulesForContracts has two or more rules of one kind that apply.
func TestSeveralRulesForContracts(t *testing.T) {
	three := pay(con("3"))
	for _, k := range []contractChange{
		{both(zero(), zero()), zero()},
		{scale(con("0"), zero()), zero()}, {scale(con("1"), zero()), zero()}, {scale(con("2"), zero()), zero()}, {scale(con("0"), three), zero()}, {scale(con("1"), three), three}, {scale(con("0"), pay(con("0"))), zero()}, {scale(con("1"), pay(con("0"))), zero()}, {scale(con("2"), pay(con("0"))), zero()}, {scale(con("1"), one()), one()}, {scale(con("3"), one()), three},
		{branch(yes(), c, c), c}, {branch(no(), d, d), d}, {branch(yes(), zero(), zero()), zero()}, {branch(no(), c, zero()), zero()}, {branch(yes(), zero(), c), zero()}, {branch(p, zero(), zero()), zero()},
		{at(5, at(4, zero())), zero()}, {at(5, at(6, zero())), zero()}, {at(5, at(4, at(3, c))), zero()}, {at(5, at(5, at(4, c))), zero()}, {at(3, at(5, at(4, c))), zero()},
		{pick("Ann", "side", zero(), zero()), zero()},
		{until(no(), dates, zero()), zero()}, {until(yes(), dates, zero()), zero()}, {when(no(), dates, zero()), zero()}, {when(yes(), dates, zero()), zero()},
	} {
		checkContract(t, k.from, k.to)
	}
}

// TestContractsThatBecomeSimple has rules that apply only after expressions and contracts are simplified, and results to which other rules apply in what is around them.
func TestContractsThatBecomeSimple(t *testing.T) {
	nothing, truth, lie := sub(y, y), equal(y, y), less(con("3"), con("2"))
	empty := pay(nothing)
	for _, k := range []contractChange{
		{pay(nothing), zero()}, {pay(mul(con("2"), con("0"))), zero()}, {pay(add(x, nothing)), c}, {pay(mul(con("2"), con("3"))), pay(con("6"))},
		{both(empty, c), c}, {both(c, scale(nothing, d)), c}, {both(both(zero(), empty), both(c, zero())), c}, {both(both(zero(), c), zero()), c},
		{scale(sub(mul(con("2"), con("3")), con("5")), both(zero(), pay(con("4")))), pay(con("4"))}, // the example of the document
		{scale(nothing, c), zero()}, {scale(sub(con("3"), con("2")), c), c}, {scale(x, both(zero(), zero())), zero()}, {scale(add(con("1"), con("1")), pay(sub(con("3/2"), con("1")))), one()}, {scale(con("2"), scale(con("3"), pay(con("4")))), pay(con("24"))}, {scale(con("2"), scale(con("1/2"), one())), one()}, {scale(con("2"), scale(con("1"), c)), scale(con("2"), c)}, {scale(con("2"), scale(con("0"), c)), zero()}, {scale(con("2"), branch(yes(), one(), c)), pay(con("2"))}, {scale(con("2"), both(one(), zero())), pay(con("2"))}, {scale(con("2"), pick("Ann", "side", one(), one())), pay(con("2"))}, {scale(con("2"), until(no(), dates, one())), pay(con("2"))},
		{branch(truth, c, d), c}, {branch(lie, c, d), d}, {branch(and(p, lie), c, d), d}, {branch(not(not(p)), c, d), branch(p, c, d)}, {branch(p, both(c, zero()), scale(con("1"), c)), c}, {branch(p, empty, zero()), zero()},
		{at(5, empty), zero()}, {at(5, both(zero(), at(4, c))), zero()}, {at(5, branch(p, at(4, c), at(4, c))), zero()}, {at(5, scale(con("1"), at(4, c))), zero()}, {at(5, until(no(), dates, at(4, c))), zero()}, {at(5, pick("Ann", "side", at(4, d), at(4, d))), zero()}, {at(5, both(zero(), at(5, c))), at(5, at(5, c))},
		{pick("Ann", "side", scale(con("2"), one()), pay(con("2"))), pay(con("2"))}, {pick("Ann", "side", both(c, zero()), both(zero(), c)), c}, {pick("Ann", "side", empty, at(5, zero())), zero()},
		{call("Ann", "right", dates, empty), zero()}, {call("Ann", "right", dates, at(5, at(4, c))), zero()}, {call("Ann", "right", dates, both(c, zero())), call("Ann", "right", dates, c)},
		{until(lie, dates, c), c}, {until(truth, dates, c), until(yes(), dates, c)}, {until(p, dates, empty), zero()}, {until(or(p, lie), dates, both(zero(), c)), until(p, dates, c)},
		{when(lie, dates, c), zero()}, {when(truth, dates, c), when(yes(), dates, c)}, {when(p, dates, empty), zero()}, {when(and(truth, p), dates, scale(con("1"), c)), when(p, dates, c)},
		{when(p, dates, until(p, dates, call("Ann", "right", dates, at(5, scale(x, branch(p, pick("Ann", "side", both(empty, empty), zero()), zero())))))), zero()},
	} {
		checkContract(t, k.from, k.to)
	}
}

// contractPlaces put a contract into another one, each kind in turn; no rule applies to the wholes as such.
func contractPlaces() []func(api.Contract) api.Contract {
	other := paid("Dan", "Eve", "EUR", fix("other", 1))
	return []func(api.Contract) api.Contract{
		func(a api.Contract) api.Contract { return both(a, other) }, func(a api.Contract) api.Contract { return both(other, a) },
		func(a api.Contract) api.Contract { return scale(now("u"), a) },
		func(a api.Contract) api.Contract { return branch(is("r"), a, other) }, func(a api.Contract) api.Contract { return branch(is("r"), other, a) },
		func(a api.Contract) api.Contract { return at(0, a) },
		func(a api.Contract) api.Contract { return pick("Ann", "way", a, other) }, func(a api.Contract) api.Contract { return pick("Ann", "way", other, a) },
		func(a api.Contract) api.Contract { return call("Ann", "right", dates, a) },
		func(a api.Contract) api.Contract { return until(is("r"), dates, a) },
		func(a api.Contract) api.Contract { return when(is("r"), dates, a) },
	}
}

// TestRulesInsideContracts has each rule in each place, and in each place of each place.
func TestRulesInsideContracts(t *testing.T) {
	inside := 0
	for _, k := range contractChanges() {
		for _, in := range contractPlaces() {
			from, to := in(k.from), in(k.to)
			if k.to.Kind != api.ConZero {
				checkContract(t, from, to)
				inside++
			}
			checkContract(t, from, simpleContract(to))
			for _, further := range contractPlaces() {
				checkContract(t, further(from), simpleContract(further(to)))
			}
		}
	}
	if inside < 100 {
		t.Errorf("only %d", inside)
	}
}

// TestExpressionsInsideContracts has each rule for expressions in each kind of contract that has one.
func TestExpressionsInsideContracts(t *testing.T) {
	for _, k := range exprChanges() {
		l := []func(api.Expr) api.Contract{pay, func(z api.Expr) api.Contract { return scale(z, d) }}
		if sortOf(k.from) == 't' {
			l = []func(api.Expr) api.Contract{
				func(z api.Expr) api.Contract { return branch(z, c, d) }, func(z api.Expr) api.Contract { return until(z, dates, d) }, func(z api.Expr) api.Contract { return when(z, dates, d) },
			}
		}
		for _, in := range l {
			checkContract(t, in(k.from), simpleContract(in(k.to)))
			if !slices.ContainsFunc([]api.Expr{con("0"), con("1"), yes(), no()}, func(z api.Expr) bool { return alike(k.to, z) }) {
				checkContract(t, in(k.from), in(k.to))
			}
			for _, around := range contractPlaces() {
				checkContract(t, around(in(k.from)), simpleContract(around(in(k.to))))
			}
		}
	}
}

// TestProductsOfTooManyDigits stay.
func TestProductsOfTooManyDigits(t *testing.T) {
	big, long, other := con(tens(999)), con(long[0]), con(long[1])
	for _, k := range []contractChange{
		{scale(con("10"), pay(big)), scale(con("10"), pay(big))}, {scale(big, pay(con("10"))), scale(big, pay(con("10")))}, {scale(big, pay(con("-10"))), scale(big, pay(con("-10")))}, {scale(long, pay(long)), scale(long, pay(long))}, {scale(con("1/10"), pay(con("1/"+tens(999)))), scale(con("1/10"), pay(con("1/"+tens(999))))},
		{scale(con(tens(500)), pay(con(tens(499)))), pay(big)}, {scale(con(tens(500)), pay(con(tens(500)))), scale(con(tens(500)), pay(con(tens(500))))},
		{scale(con("-1"), pay(big)), pay(con("-" + tens(999)))}, {scale(con("1"), pay(big)), pay(big)}, {scale(big, one()), pay(big)}, {scale(con("0"), pay(big)), zero()}, {scale(big, pay(con("0"))), zero()}, {scale(big, zero()), zero()},
		{scale(con("2"), scale(con("10"), pay(big))), scale(con("2"), scale(con("10"), pay(big)))}, {scale(con("1"), scale(con("10"), pay(big))), scale(con("10"), pay(big))}, {scale(con("0"), scale(con("10"), pay(big))), zero()},
		{scale(mul(big, big), one()), scale(mul(big, big), one())}, {scale(con("2"), pay(mul(big, big))), scale(con("2"), pay(mul(big, big)))}, {pick("Ann", "side", scale(con("10"), pay(big)), scale(con("10"), pay(big))), scale(con("10"), pay(big))}, {branch(less(long, other), c, d), branch(less(long, other), c, d)},
	} {
		checkContract(t, k.from, k.to)
	}
}

// balanced returns n payments of fixings, by Ann and Bob in turn, that are not deep; nothing in it can be simplified.
func balanced(n int) api.Contract {
	if n == 1 {
		return paid("Ann", "Bob", "USD", now("s"))
	}
	return both(balanced(n/2), balanced(n-n/2))
}

// TestSameContracts has two contracts that are large and the same, or differ somewhere.
func TestSameContracts(t *testing.T) {
	l := []api.Contract{at(3, c), call("Ann", "right", dates, c), until(p, dates, c), when(p, dates, c), scale(x, c), branch(p, c, d), d, zero()}
	for _, n := range []int{1, 2, 7, 20, 80} {
		l = append(l, balanced(n))
	}
	compared := 0
	for _, a := range l {
		checkContract(t, pick("Ann", "side", a, copyOf(a)), a)
		checkContract(t, branch(p, copyOf(a), a), a)
		for _, b := range differentContracts(a) {
			compared++
			for _, whole := range []api.Contract{pick("Ann", "side", a, b), branch(p, b, a), branch(q, a, b)} {
				checkContract(t, whole, whole)
			}
		}
	}
	if compared < 100 {
		t.Errorf("only %d", compared)
	}
}

// differentContracts returns contracts that differ from a contract in one field of one node, far down on either side.
func differentContracts(a api.Contract) []api.Contract {
	var l []api.Contract
	for _, k := range []struct {
		has    func(api.Contract) bool
		change func(*api.Contract)
	}{
		{func(a api.Contract) bool { return a.From != "" }, func(a *api.Contract) { a.From += "x" }},
		{func(a api.Contract) bool { return a.To != "" }, func(a *api.Contract) { a.To += "x" }},
		{func(a api.Contract) bool { return a.Name != "" }, func(a *api.Contract) { a.Name += "x" }},
		{func(a api.Contract) bool { return a.Expr.Name != "" }, func(a *api.Contract) { a.Expr.Name += "x" }},
		{func(a api.Contract) bool { return len(a.Expr.Sub) > 0 }, func(a *api.Contract) { a.Expr.Sub[0].Name += "x" }},
		{func(a api.Contract) bool { return a.Kind == api.ConAt }, func(a *api.Contract) { a.Date++ }},
		{func(a api.Contract) bool { return len(a.Dates) > 0 }, func(a *api.Contract) { a.Dates = append(a.Dates, 9) }},
		{func(a api.Contract) bool { return len(a.Dates) > 0 }, func(a *api.Contract) { a.Dates = a.Dates[1:] }},
		{func(a api.Contract) bool { return len(a.Dates) > 0 }, func(a *api.Contract) { a.Dates[0]-- }},
		{func(a api.Contract) bool { return a.Kind == api.ConUntil }, func(a *api.Contract) { a.Kind = api.ConWhen }},
		{func(a api.Contract) bool { return a.Kind == api.ConZero }, func(a *api.Contract) { *a = one() }},
		{func(a api.Contract) bool { return a.Kind == api.ConBoth }, func(a *api.Contract) { *a = pick("Ann", "side", a.Sub[0], at(3, a.Sub[1])) }},
	} {
		for _, side := range []int{0, 1} {
			b := copyOf(a)
			node := &b
			for !k.has(*node) && len(node.Sub) > side {
				node = &node.Sub[side]
			}
			if k.has(*node) {
				k.change(node)
				l = append(l, b)
			}
		}
	}
	return l
}

// TestContractsWithoutElements has parts that differ only in nil and empty lists.
func TestContractsWithoutElements(t *testing.T) {
	a, b := pay(x), pay(x)
	a.Dates, a.Sub, b.Sub = []int{}, make([]api.Contract, 0, 3), []api.Contract{}
	b.Expr.Sub = []api.Expr{}
	e, f := at(5, a), at(5, b)
	f.Dates, e.Expr.Sub = make([]int, 0, 9), make([]api.Expr, 0, 1)
	empty := zero()
	empty.Dates, empty.Sub, empty.Expr.Sub = []int{}, []api.Contract{}, []api.Expr{}
	for _, k := range []contractChange{
		{pick("Ann", "side", a, b), c}, {branch(p, b, a), c}, {pick("Ann", "side", e, f), at(5, c)}, {branch(p, both(e, f), both(f, e)), both(at(5, c), at(5, c))}, {both(empty, a), c}, {both(b, empty), c}, {at(5, empty), zero()}, {pick("Ann", "side", empty, zero()), zero()}, {a, c}, {f, at(5, c)}, {empty, zero()},
	} {
		checkContract(t, k.from, k.to)
	}
}

// TestLargestContracts has contracts of the greatest size and depth.
func TestLargestContracts(t *testing.T) {
	deep := pay(x)
	for range 58 {
		deep = both(zero(), deep)
	}
	checkContract(t, deep, c)
	deep = pay(x)
	for date := range 58 {
		deep = at(57-date, deep)
	}
	checkContract(t, deep, deep)
	deep = pay(x)
	for date := range 58 {
		deep = at(date, deep)
	}
	checkContract(t, deep, zero())
	tall := sum("s", 1)
	for range 58 {
		tall = add(tall, con("0"))
	}
	checkContract(t, pay(tall), pay(now("s")))
	half := balanced(83) // 3*83 - 1 = 248
	for _, whole := range []api.Contract{pick("Ann", "side", half, copyOf(half)), branch(equal(con("1"), con("1")), half, copyOf(half)), until(less(con("1"), con("0")), dates, half), scale(mul(con("2"), con("1/2")), half)} {
		checkContract(t, whole, half)
	}
	full := both(both(half, zero()), at(5, half))
	if checkContract(t, full, both(half, at(5, half))); sizeOf(full) != 500 {
		t.Errorf("a size of %d", sizeOf(full))
	}
	full = both(both(half, pay(con("0"))), half)
	if checkContract(t, full, both(half, half)); sizeOf(full) != 500 {
		t.Errorf("a size of %d", sizeOf(full))
	}
	products := one()
	for range 57 {
		products = scale(con("-2"), products)
	}
	checkContract(t, products, pay(con("-144115188075855872")))
	var days []int
	for day := range api.MaxDates {
		days = append(days, day*7)
	}
	lists := when(p, days, until(q, days, call("Ann", "right", days, c)))
	checkContract(t, lists, lists)
	checkContract(t, when(p, days, both(zero(), lists)), when(p, days, lists))
}

// TestContractsLikeTheModel has random contracts.
func TestContractsLikeTheModel(t *testing.T) {
	changed, kinds := 0, map[uint8]int{}
	samples(2, func(r *rand.Rand, c api.Contract, day int, v api.Env) {
		want := simpleContract(c)
		checkContract(t, c, want)
		if !alikeContracts(c, want) {
			changed++
		}
		kinds[want.Kind]++
	})
	if changed < 1500 || len(kinds) < 10 || kinds[api.ConZero] > 1500 {
		t.Errorf("only %d changed, %v", changed, kinds)
	}
}
