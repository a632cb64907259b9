package algebra_test

import (
	"fmt"
	"math/rand"
	"slices"
	"testing"

	"novation/algebra"
	"novation/api"
	"novation/contract"
	"novation/observable"
)

// P11.3

// A facts has what must not become more: parties, currencies and days.
type facts struct {
	parties, currencies []string
	days                []int
}

func factsOf(c api.Contract) (f facts) {
	var visit func(c api.Contract)
	visit = func(c api.Contract) {
		f.parties = append(f.parties, c.From, c.To)
		if c.Kind == api.ConPay {
			f.currencies = append(f.currencies, c.Name)
		}
		f.days = append(append(f.days, c.Dates...), daysOf(c.Expr)...)
		if c.Kind == api.ConAt {
			f.days = append(f.days, c.Date)
		}
		for _, part := range c.Sub {
			visit(part)
		}
	}
	visit(c)
	return f
}

func daysOf(x api.Expr) []int {
	var l []int
	if x.Kind == api.ExprFix {
		l = append(l, x.Date)
	}
	for _, part := range x.Sub {
		l = append(l, daysOf(part)...)
	}
	return l
}

// isAmong tells whether each element of a list is one of another list.
func isAmong[T comparable](l, all []T) bool {
	return !slices.ContainsFunc(l, func(element T) bool { return !slices.Contains(all, element) })
}

func checkConsequences(t *testing.T, c api.Contract) {
	t.Helper()
	d, e := algebra.Simplify(c)
	if e != api.OK || contract.Check(d) != api.OK {
		t.Errorf("Simplify(%s) = %s, %d", short(c), short(d), e)
		return
	}
	if sizeOf(d) > sizeOf(c) || depthOf(d) > depthOf(c) || contract.Size(d) > contract.Size(c) || contract.Depth(d) > contract.Depth(c) {
		t.Errorf("%s is larger or deeper than %s", short(d), short(c))
	}
	before, after := factsOf(c), factsOf(d)
	if !isAmong(after.parties, append(before.parties, "")) || !isAmong(after.currencies, before.currencies) || !isAmong(after.days, before.days) {
		t.Errorf("%s has other parties, currencies or days than %s", short(d), short(c))
	}
	if again, e := algebra.Simplify(d); e != api.OK || !alikeContracts(again, d) {
		t.Errorf("%s became %s, and then %s, %d", short(c), short(d), short(again), e)
	}
}

func checkExprConsequences(t *testing.T, x api.Expr) {
	t.Helper()
	y, e := algebra.Expression(x)
	if e != api.OK || observable.Check(y) != api.OK || sortOf(x) != sortOf(y) {
		t.Errorf("Expression(%s) = %s, %d", short(x), short(y), e)
		return
	}
	if sizeOfExpr(y) > sizeOfExpr(x) || depthOfExpr(y) > depthOfExpr(x) || !isAmong(daysOf(y), daysOf(x)) {
		t.Errorf("%s is larger or deeper than %s, or has other days", short(y), short(x))
	}
	if again, e := algebra.Expression(y); e != api.OK || !alike(again, y) {
		t.Errorf("%s became %s, and then %s, %d", short(x), short(y), short(again), e)
	}
}

func TestConsequencesOfExpressions(t *testing.T) {
	exprSamples(7, func(r *rand.Rand, x api.Expr, day int, v api.Env) { checkExprConsequences(t, x) })
	for _, k := range exprChanges() {
		checkExprConsequences(t, k.from)
		for _, in := range places() {
			if in.sort == sortOf(k.from) {
				checkExprConsequences(t, in.put(k.from))
			}
		}
	}
	// The smallest that become a truth value.
	for _, s := range []api.Expr{less(con("1"), con("2")), equal(con("5"), con("5")), less(x, x), equal(x, x), not(yes()), not(no())} {
		checkExprConsequences(t, s)
	}
	for _, s := range []api.Expr{nots(p, 58), nots(yes(), 58), sum("s", 250), sub(sum("s", 125), sum("s", 125))} {
		checkExprConsequences(t, s)
	}
}

func TestConsequencesOfContracts(t *testing.T) {
	samples(8, func(r *rand.Rand, c api.Contract, day int, v api.Env) { checkConsequences(t, c) })
	contractSamples(func(c api.Contract) { checkConsequences(t, c) })
	for _, c := range disguises(balanced(80)) {
		checkConsequences(t, c)
	}
}

// P1 and the rules

func TestArgumentsAreNotChanged(t *testing.T) {
	samples(9, func(r *rand.Rand, c api.Contract, day int, v api.Env) {
		a, b := copyOf(c), copyOf(simpleContract(c))
		beforeA, beforeB := whole(a), whole(b)
		algebra.Simplify(a)
		algebra.Equal(a, b)
		algebra.Equal(b, a)
		algebra.Expression(a.Expr)
		if whole(a) != beforeA || whole(b) != beforeB {
			t.Errorf("%s or %s was changed", short(a), short(b))
		}
	})
	exprSamples(10, func(r *rand.Rand, x api.Expr, day int, v api.Env) {
		x = copyOfExpr(x)
		before := wholeExpr(x)
		algebra.Expression(x)
		if wholeExpr(x) != before {
			t.Errorf("%s was changed", short(x))
		}
	})
}

// spoil changes all memory of a contract, also behind the ends of lists, and counts the lists.
func spoil(c api.Contract) int {
	n := spoilExpr(c.Expr)
	for _, part := range c.Sub[:cap(c.Sub)] {
		n += spoil(part)
	}
	clear(c.Dates[:cap(c.Dates)])
	clear(c.Sub[:cap(c.Sub)])
	return n + len(c.Dates) + len(c.Sub)
}

func spoilExpr(x api.Expr) int {
	n := len(x.Sub)
	for _, part := range x.Sub[:cap(x.Sub)] {
		n += spoilExpr(part)
	}
	clear(x.Sub[:cap(x.Sub)])
	return n
}

// firstElements appends where the lists of a contract, or of an expression, begin.
func firstElements(l []any, c api.Contract) []any {
	l = firstParts(l, c.Expr)
	if cap(c.Dates) > 0 {
		l = append(l, &c.Dates[:1][0])
	}
	if cap(c.Sub) > 0 {
		l = append(l, &c.Sub[:1][0])
	}
	for _, part := range c.Sub {
		l = firstElements(l, part)
	}
	return l
}

func firstParts(l []any, x api.Expr) []any {
	if cap(x.Sub) > 0 {
		l = append(l, &x.Sub[:1][0])
	}
	for _, part := range x.Sub {
		l = firstParts(l, part)
	}
	return l
}

// checkApart checks that no two lists begin in the same place.
func checkApart(t *testing.T, what string, l []any) {
	t.Helper()
	seen := map[any]bool{}
	for _, where := range l {
		if seen[where] {
			t.Errorf("%s: two lists share memory", what)
		}
		seen[where] = true
	}
}

// TestResultsShareNoMemory has arguments in which parts share memory, as they are used more than once.
func TestResultsShareNoMemory(t *testing.T) {
	spoiled := 0
	check := func(c api.Contract) {
		before := whole(c)
		first, _ := algebra.Simplify(c)
		second, _ := algebra.Simplify(c)
		want := whole(second)
		checkApart(t, short(c), firstElements(firstElements(nil, first), second))
		own := firstElements(nil, c)
		for _, where := range firstElements(nil, first) {
			if slices.Contains(own, where) {
				t.Errorf("the result for %s shares memory with it", short(c))
			}
		}
		spoiled += spoil(first)
		third, _ := algebra.Simplify(c)
		if whole(c) != before || whole(second) != want || !alikeContracts(third, second) {
			t.Errorf("%s became %s, then %s", short(c), short(second), short(third))
		}
	}
	samples(11, func(r *rand.Rand, c api.Contract, day int, v api.Env) {
		check(c)
		check(both(c, c))
		check(both(branch(yes(), c, c), branch(or(less(con("0"), con("1")), p), scale(x, c), c)))
	})
	if spoiled < 10000 {
		t.Errorf("only %d elements", spoiled)
	}
}

func TestExpressionsShareNoMemory(t *testing.T) {
	check := func(x api.Expr) {
		before := wholeExpr(x)
		first, _ := algebra.Expression(x)
		second, _ := algebra.Expression(x)
		want := wholeExpr(second)
		checkApart(t, short(x), firstParts(firstParts(nil, first), second))
		own := firstParts(nil, x)
		for _, where := range firstParts(nil, first) {
			if slices.Contains(own, where) {
				t.Errorf("the result for %s shares memory with it", short(x))
			}
		}
		spoilExpr(first)
		third, _ := algebra.Expression(x)
		if wholeExpr(x) != before || wholeExpr(second) != want || !alike(third, second) {
			t.Errorf("%s became %s, then %s", short(x), short(second), short(third))
		}
	}
	exprSamples(12, func(r *rand.Rand, z api.Expr, day int, v api.Env) {
		check(z)
		if sortOf(z) == 'n' {
			check(add(z, mul(z, x)))
			check(cond(equal(z, z), z, z))
			return
		}
		check(cond(and(z, p), x, cond(or(q, z), x, y)))
	})
	// Several places of one result become true, or false, by the same rule.
	for _, rule := range []api.Expr{equal(x, x), less(x, x), not(yes()), not(no()), equal(con("1"), con("1")), less(con("1"), con("2"))} {
		a, b := both(until(rule, dates, c), both(until(rule, dates, c), when(rule, dates, c))), both(when(rule, dates, c), when(rule, dates, d))
		for _, whole := range []api.Contract{a, b} {
			simplified, _ := algebra.Simplify(whole)
			checkApart(t, short(whole), firstElements(nil, simplified))
		}
	}
}

// TestRepeatedCallsAgree has calls with other arguments in between.
func TestRepeatedCallsAgree(t *testing.T) {
	ask := func(c api.Contract) string {
		a, e := algebra.Simplify(c)
		x, f := algebra.Expression(c.Expr)
		is, g := algebra.Equal(c, a)
		return fmt.Sprint(whole(a), e, wholeExpr(x), f, is, g)
	}
	var l []api.Contract
	var first []string
	samples(13, func(r *rand.Rand, c api.Contract, day int, v api.Env) {
		l = append(l, c)
		first = append(first, ask(c))
	})
	for i, c := range slices.Backward(l) {
		if again := ask(c); again != first[i] {
			t.Errorf("%s: first %.300s, then %.300s", short(c), first[i], again)
		}
	}
}
