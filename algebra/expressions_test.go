package algebra_test

import (
	"math/rand"
	"slices"
	"strings"
	"testing"

	"novation/api"
)

// P11.1: Expression

// A change is what becomes of an expression.
type change struct {
	from, to api.Expr
}

// x and y are numbers, p and q truth values that are known only on a day.
var x, y, p, q = now("x"), fix("y", 7), is("p"), less(now("x"), con("5"))

// exprChanges are by the rules of the document's table, each rule alone.
func exprChanges() []change {
	return []change{
		{add(con("1/6"), con("1/3")), con("1/2")}, {add(con("2"), con("-2")), con("0")}, {sub(con("2"), con("5/2")), con("-1/2")}, {sub(con("3"), con("2")), con("1")}, {mul(con("2"), con("3/2")), con("3")}, {mul(con("-2/3"), con("-3/2")), con("1")},
		{greater(con("-3"), con("2")), con("2")}, {greater(con("1/2"), con("1/3")), con("1/2")}, {smaller(con("-3"), con("2")), con("-3")}, {smaller(con("1/2"), con("1/3")), con("1/3")},
		{add(con("0"), x), x}, {add(x, con("0")), x},
		{sub(x, con("0")), x}, {sub(x, x), con("0")},
		{mul(con("0"), x), con("0")}, {mul(x, con("0")), con("0")}, {mul(con("1"), x), x}, {mul(x, con("1")), x},
		{greater(x, x), x}, {smaller(x, x), x},
		{less(con("2"), con("3")), yes()}, {less(con("3"), con("2")), no()}, {less(con("-1/2"), con("-1/3")), yes()}, {less(con("2"), con("2")), no()}, {less(x, x), no()},
		{equal(con("2"), con("2")), yes()}, {equal(con("2"), con("3")), no()}, {equal(con("3"), con("2")), no()}, {equal(con("1/2"), con("-1/2")), no()}, {equal(x, x), yes()},
		{not(yes()), no()}, {not(no()), yes()}, {not(not(p)), p},
		{and(yes(), p), p}, {and(p, yes()), p}, {and(no(), p), no()}, {and(p, no()), no()}, {and(p, p), p},
		{or(no(), p), p}, {or(p, no()), p}, {or(yes(), p), yes()}, {or(p, yes()), yes()}, {or(p, p), p},
		{cond(yes(), x, y), x}, {cond(no(), x, y), y}, {cond(p, x, x), x},
	}
}

func TestRulesForExpressions(t *testing.T) {
	for _, k := range exprChanges() {
		checkExpr(t, k.from, k.to)
	}
}

// TestNoRuleForExpressions has expressions that stay as they are.
func TestNoRuleForExpressions(t *testing.T) {
	for _, z := range []api.Expr{
		con("0"), con("1"), con("-7/3"), fix("a", 0), fix("a", api.MaxDate), x, y,
		add(x, y), add(x, x), add(x, con("1")), add(con("1"), x), add(con("-1"), x), sub(x, y), sub(con("0"), x), sub(x, con("1")), sub(con("1"), x), mul(x, y), mul(x, x), mul(con("-1"), x), mul(x, con("-1")), mul(con("2"), x), mul(x, con("1/2")),
		greater(x, y), greater(x, con("0")), greater(con("0"), x), smaller(x, y), smaller(con("1"), x), smaller(x, con("0")),
		less(x, y), less(con("0"), x), less(x, con("0")), less(x, con("1")), equal(x, y), equal(con("0"), x), equal(x, con("0")), equal(x, con("1")),
		p, q, not(p), not(q), and(p, q), or(p, q), cond(p, x, y), cond(p, con("0"), con("1")), cond(p, con("1"), con("0")), yes(), no(),
		add(add(x, con("1")), con("1")), add(con("1"), add(con("1"), x)), sub(add(x, y), y), sub(x, sub(x, y)), sub(add(x, y), add(y, x)), mul(mul(x, con("2")), con("1/2")), mul(x, add(y, x)), greater(x, greater(x, y)), smaller(smaller(x, y), y), greater(x, smaller(x, y)), greater(add(x, y), add(y, x)),
		less(add(x, y), add(y, x)), equal(add(x, y), add(y, x)), less(x, add(x, con("1"))), equal(x, add(x, con("1"))), not(and(p, q)), not(or(not(p), q)), and(p, and(p, q)), or(or(p, q), q), and(p, or(p, q)), cond(not(p), x, y), cond(p, x, cond(p, x, y)),
	} {
		checkExpr(t, z, z)
	}
}

// TestAlwaysTrue has truth values that are always true or always false without being what stands for these.
func TestAlwaysTrue(t *testing.T) {
	for _, r := range []api.Expr{or(p, not(p)), or(not(p), p), not(and(p, not(p))), equal(add(x, con("1")), add(con("1"), x)), not(less(greater(x, con("0")), con("0"))), or(less(x, y), or(less(y, x), equal(x, y))), not(and(less(x, y), less(y, x))), not(less(mul(x, x), con("0")))} {
		f := not(r)
		if r.Kind == api.ExprNot {
			f = r.Sub[0]
		}
		for _, s := range []api.Expr{r, f} {
			checkExpr(t, s, s)
			checkExpr(t, and(s, q), and(s, q))
			checkExpr(t, and(q, s), and(q, s))
			checkExpr(t, or(s, q), or(s, q))
			checkExpr(t, or(q, s), or(q, s))
			checkExpr(t, cond(s, x, y), cond(s, x, y))
		}
		checkExpr(t, not(not(r)), r)
	}
	// Others become what stands for them.
	for _, s := range []api.Expr{equal(con("1"), con("1")), equal(con("-1/2"), con("-1/2")), less(con("0"), con("1")), not(less(con("0"), con("0"))), not(equal(con("0"), con("1"))), equal(x, x), not(less(x, x)), and(yes(), yes()), or(no(), equal(y, y))} {
		checkExpr(t, s, yes())
		checkExpr(t, not(s), no())
		checkExpr(t, and(s, q), q)
		checkExpr(t, and(q, s), q)
		checkExpr(t, or(s, q), yes())
		checkExpr(t, or(q, s), yes())
		checkExpr(t, or(not(s), q), q)
		checkExpr(t, and(q, not(s)), no())
		checkExpr(t, cond(s, x, y), x)
		checkExpr(t, cond(not(s), x, y), y)
	}
}

// TestSeveralRulesForExpressions has two or more rules of one kind that apply.
func TestSeveralRulesForExpressions(t *testing.T) {
	for _, k := range []change{
		{add(con("0"), con("0")), con("0")}, {add(con("0"), con("5")), con("5")}, {add(con("5"), con("0")), con("5")},
		{sub(con("5"), con("0")), con("5")}, {sub(con("0"), con("0")), con("0")}, {sub(con("5"), con("5")), con("0")}, {sub(con("0"), con("5")), con("-5")},
		{mul(con("0"), con("0")), con("0")}, {mul(con("0"), con("1")), con("0")}, {mul(con("1"), con("0")), con("0")}, {mul(con("1"), con("1")), con("1")}, {mul(con("1"), con("5")), con("5")}, {mul(con("5"), con("1")), con("5")}, {mul(con("5"), con("0")), con("0")},
		{greater(con("5"), con("5")), con("5")}, {smaller(con("0"), con("0")), con("0")},
		{less(con("0"), con("0")), no()}, {less(con("1"), con("1")), no()}, {equal(con("1"), con("1")), yes()}, {equal(con("0"), con("0")), yes()},
		{and(yes(), yes()), yes()}, {and(yes(), no()), no()}, {and(no(), yes()), no()}, {and(no(), no()), no()},
		{or(yes(), yes()), yes()}, {or(yes(), no()), yes()}, {or(no(), yes()), yes()}, {or(no(), no()), no()},
		{cond(yes(), x, x), x}, {cond(no(), x, x), x}, {cond(yes(), con("0"), con("0")), con("0")}, {cond(no(), con("1"), con("1")), con("1")},
		{not(not(yes())), yes()}, {not(not(no())), no()}, {not(not(not(p))), not(p)}, {not(not(not(not(p)))), p}, {nots(p, 55), not(p)}, {nots(p, 54), p}, {nots(yes(), 55), no()}, {nots(no(), 55), yes()}, {nots(yes(), 54), yes()},
	} {
		checkExpr(t, k.from, k.to)
	}
}

// TestPartsThatBecomeSimple has rules that apply only after the parts are simplified.
func TestPartsThatBecomeSimple(t *testing.T) {
	nothing, unit := sub(y, y), cond(less(x, x), con("0"), con("1"))
	truth, lie := equal(y, y), not(equal(con("7"), greater(con("7"), con("-7"))))
	for _, k := range []change{
		{add(nothing, x), x}, {add(x, nothing), x}, {sub(x, nothing), x}, {sub(add(x, nothing), mul(unit, x)), con("0")}, {mul(nothing, x), con("0")}, {mul(x, nothing), con("0")}, {mul(unit, x), x}, {mul(x, unit), x}, {mul(unit, nothing), con("0")}, {add(unit, unit), con("2")}, {sub(nothing, add(unit, unit)), con("-2")},
		{greater(add(x, nothing), x), x}, {smaller(x, mul(x, unit)), x}, {greater(unit, nothing), con("1")}, {smaller(unit, nothing), con("0")},
		{less(nothing, unit), yes()}, {less(unit, nothing), no()}, {less(greater(x, x), x), no()}, {equal(smaller(x, x), x), yes()}, {equal(unit, con("1")), yes()}, {equal(nothing, unit), no()},
		{not(truth), no()}, {not(lie), yes()}, {not(and(truth, not(p))), p}, {not(or(not(q), lie)), q},
		{and(truth, p), p}, {and(p, truth), p}, {and(lie, p), no()}, {and(p, lie), no()}, {and(not(not(p)), p), p}, {and(p, or(p, lie)), p},
		{or(lie, p), p}, {or(p, lie), p}, {or(truth, p), yes()}, {or(p, truth), yes()}, {or(p, and(p, truth)), p},
		{cond(truth, x, y), x}, {cond(lie, x, y), y}, {cond(p, mul(unit, x), add(nothing, x)), x}, {cond(not(not(p)), x, y), cond(p, x, y)},
		// Parts that are simplified, where no rule applies to the whole.
		{add(mul(unit, x), add(nothing, y)), add(x, y)}, {sub(nothing, mul(unit, y)), sub(con("0"), y)}, {less(add(nothing, x), unit), less(x, con("1"))}, {equal(mul(y, unit), nothing), equal(y, con("0"))}, {not(and(p, or(lie, q))), not(and(p, q))}, {cond(and(p, truth), mul(x, unit), sub(y, nothing)), cond(p, x, y)}, {or(not(not(p)), not(not(not(q)))), or(p, not(q))},
		{add(con("1"), add(con("2"), add(con("3"), x))), add(con("1"), add(con("2"), add(con("3"), x)))}, {add(add(add(con("1"), con("2")), con("3")), x), add(con("6"), x)},
		// The example of the document, and the one of stage 11.
		{sub(mul(con("2"), con("3")), con("5")), con("1")}, {not(less(con("3"), con("2"))), yes()}, {add(mul(x, sub(con("3"), con("2"))), greater(con("0"), con("-1"))), x},
	} {
		checkExpr(t, k.from, k.to)
	}
}

// A place puts an expression into another one, where it is alone.
type place struct {
	sort byte // of the part
	put  func(api.Expr) api.Expr
}

// places are all places of all kinds; no rule applies to the wholes as such.
func places() []place {
	u, w := now("u"), fix("w", 3)
	r, s := is("r"), is("s")
	var l []place
	for _, kind := range []uint8{4, 5, 6, 7, 8, 11, 12} {
		l = append(l, place{'n', func(z api.Expr) api.Expr { return expr(kind, z, u) }}, place{'n', func(z api.Expr) api.Expr { return expr(kind, u, z) }})
	}
	for _, kind := range []uint8{13, 14} {
		l = append(l, place{'t', func(z api.Expr) api.Expr { return expr(kind, z, r) }}, place{'t', func(z api.Expr) api.Expr { return expr(kind, r, z) }})
	}
	return append(l,
		place{'n', func(z api.Expr) api.Expr { return cond(s, z, w) }}, place{'n', func(z api.Expr) api.Expr { return cond(s, w, z) }},
		place{'t', func(z api.Expr) api.Expr { return cond(z, u, w) }}, place{'t', not})
}

func sortOf(x api.Expr) byte {
	if x.Kind <= api.ExprWhen {
		return 'n'
	}
	return 't'
}

// TestRulesInsideExpressions has each rule in each place, and in each place of each place.
func TestRulesInsideExpressions(t *testing.T) {
	inside := 0
	for _, k := range exprChanges() {
		plain := !slices.ContainsFunc([]api.Expr{con("0"), con("1"), yes(), no()}, func(z api.Expr) bool { return alike(k.to, z) })
		for _, in := range places() {
			if in.sort != sortOf(k.from) {
				continue
			}
			from, to := in.put(k.from), in.put(k.to)
			if plain {
				checkExpr(t, from, to)
				inside++
			}
			checkExpr(t, from, simple(to))
			for _, further := range places() {
				if further.sort == sortOf(from) {
					checkExpr(t, further.put(from), simple(further.put(to)))
				}
			}
		}
	}
	if inside < 200 {
		t.Errorf("only %d", inside)
	}
}

// long are two fractions with parts of 601 digits, which can be neither added nor compared, not even one with itself.
var long = [2]api.Rat{tens(600) + "/" + tens(599) + "1", tens(600) + "/" + tens(599) + "3"}

// TestTooManyDigits has computations that have an error, so that they stay, or are left to the next rule.
func TestTooManyDigits(t *testing.T) {
	big, small, other := con(tens(999)), con(long[0]), con(long[1])
	nines := con(api.Rat(strings.Repeat("9", 1000)))
	for _, k := range []change{
		{mul(big, big), mul(big, big)}, {mul(big, con("10")), mul(big, con("10"))}, {mul(small, small), mul(small, small)}, {mul(con(tens(500)), con(tens(500))), mul(con(tens(500)), con(tens(500)))}, {mul(con(tens(500)), con(tens(499))), big},
		{add(nines, con("1")), add(nines, con("1"))}, {add(small, other), add(small, other)}, {sub(con("-1"), nines), sub(con("-1"), nines)}, {sub(small, other), sub(small, other)},
		{greater(small, other), greater(small, other)}, {smaller(small, other), smaller(small, other)}, {less(small, other), less(small, other)}, {equal(small, other), equal(small, other)}, {less(other, small), less(other, small)},
		// The next rules.
		{sub(small, small), con("0")}, {greater(small, small), small}, {smaller(small, small), small}, {less(small, small), no()}, {equal(small, small), yes()},
		{add(con("0"), small), small}, {add(small, con("0")), small}, {sub(small, con("0")), small}, {mul(con("0"), big), con("0")}, {mul(big, con("0")), con("0")}, {mul(con("1"), big), big}, {mul(small, con("1")), small}, {less(con("0"), small), yes()}, {equal(con("0"), small), no()},
		{and(less(small, other), p), and(less(small, other), p)}, {not(equal(small, other)), not(equal(small, other))}, {cond(less(small, other), x, y), cond(less(small, other), x, y)}, {cond(less(small, other), x, x), x}, {and(less(small, other), less(small, other)), less(small, other)}, {not(not(less(small, other))), less(small, other)},
		{sub(mul(big, big), mul(big, big)), con("0")}, {equal(mul(big, big), mul(big, big)), yes()}, {mul(con("0"), mul(big, big)), con("0")}, {add(con("0"), mul(big, big)), mul(big, big)}, {mul(mul(big, big), con("1")), mul(big, big)}, {greater(mul(big, big), mul(big, big)), mul(big, big)}, {add(mul(big, big), con("1")), add(mul(big, big), con("1"))},
	} {
		checkExpr(t, k.from, k.to)
	}
}

// TestSameParts has two parts that are large and the same, or differ somewhere.
func TestSameParts(t *testing.T) {
	for _, n := range []int{1, 2, 9, 50, 120} {
		s := sum("s", n)
		checkExpr(t, sub(s, sum("s", n)), con("0"))
		checkExpr(t, greater(s, sum("s", n)), s)
		checkExpr(t, smaller(s, sum("s", n)), s)
		checkExpr(t, less(s, sum("s", n)), no())
		checkExpr(t, equal(s, sum("s", n)), yes())
		checkExpr(t, cond(p, s, sum("s", n)), s)
		for _, twin := range different(s) {
			for _, kind := range []uint8{5, 7, 8, 11, 12} {
				checkExpr(t, expr(kind, s, twin), expr(kind, s, twin))
				checkExpr(t, expr(kind, twin, s), expr(kind, twin, s))
			}
			checkExpr(t, cond(p, s, twin), cond(p, s, twin))
			a, b := less(s, y), less(twin, y)
			checkExpr(t, and(a, b), and(a, b))
			checkExpr(t, or(b, a), or(b, a))
		}
		a := less(s, con("5"))
		checkExpr(t, and(a, copyOfExpr(a)), a)
		checkExpr(t, or(a, copyOfExpr(a)), a)
	}
}

// different returns expressions that differ from a sum of fixings of s in one field of one part.
func different(s api.Expr) []api.Expr {
	var l []api.Expr
	for _, change := range []func(*api.Expr){func(x *api.Expr) { x.Name = "S" }, func(x *api.Expr) { x.Name += "-" }, func(x *api.Expr) { x.Kind = api.ExprFix }, func(x *api.Expr) { x.Kind, x.Date = api.ExprFix, 1 }, func(x *api.Expr) { *x = con("2") }, func(x *api.Expr) { *x = con("1/2") }} {
		for _, side := range []int{0, 1} {
			other := copyOfExpr(s)
			part := &other
			for len(part.Sub) > 0 {
				part = &part.Sub[side]
			}
			change(part)
			l = append(l, other)
		}
	}
	return l
}

// TestListsWithoutElements has parts that differ only in nil and empty lists.
func TestListsWithoutElements(t *testing.T) {
	spare := make([]api.Expr, 0, 5)
	a, b, c := now("a"), now("a"), now("a")
	b.Sub, c.Sub = []api.Expr{}, spare
	zeroA, zeroB := con("0"), con("0")
	zeroA.Sub = spare
	for _, k := range []change{
		{sub(a, b), con("0")}, {sub(b, c), con("0")}, {greater(c, a), a}, {smaller(b, a), a}, {less(a, c), no()}, {equal(c, b), yes()}, {cond(p, a, b), a}, {and(equal(a, con("5")), equal(c, con("5"))), equal(a, con("5"))}, {or(equal(b, con("5")), equal(a, con("5"))), equal(a, con("5"))},
		{add(zeroA, x), x}, {mul(x, zeroA), con("0")}, {and(equal(zeroA, zeroB), p), p}, {or(less(zeroB, zeroA), p), p}, {b, a}, {zeroA, zeroB},
	} {
		checkExpr(t, k.from, k.to)
	}
}

// TestLargestExpressions has expressions of the greatest size and depth.
func TestLargestExpressions(t *testing.T) {
	deep := x
	for range 59 {
		deep = add(con("0"), deep)
	}
	checkExpr(t, deep, x)
	deep, left := p, p
	for range 58 - 1 {
		deep, left = and(yes(), deep), and(left, yes())
	}
	checkExpr(t, not(deep), not(p))
	checkExpr(t, not(left), not(p))
	checkExpr(t, nots(p, 58), p)
	checkExpr(t, not(nots(and(p, p), 56)), not(p))
	wide := con("1")
	for sizeOfExpr(wide) < 255 {
		wide = add(wide, wide)
	}
	checkExpr(t, wide, con("128"))
	half := sum("s", 124) // 247 nodes
	checkExpr(t, cond(equal(con("1"), con("1")), half, sum("t", 124)), half)
	whole := cond(p, half, sum("t", 124)) // 498
	checkExpr(t, whole, whole)
	whole = cond(not(not(p)), half, sum("t", 124)) // 500
	checkExpr(t, whole, cond(p, half, sum("t", 124)))
	whole = cond(not(not(p)), half, half)
	checkExpr(t, whole, half)
	if n := sizeOfExpr(whole); n != 500 {
		t.Errorf("a size of %d", n)
	}
	sub249 := sub(sum("s", 125), sum("s", 125))
	if checkExpr(t, sub249, con("0")); sizeOfExpr(sub249) != 499 {
		t.Errorf("a size of %d", sizeOfExpr(sub249))
	}
}

// TestExpressionsLikeTheModel has random expressions.
func TestExpressionsLikeTheModel(t *testing.T) {
	changed := 0
	exprSamples(1, func(r *rand.Rand, x api.Expr, day int, v api.Env) {
		want := simple(x)
		checkExpr(t, x, want)
		if !alike(x, want) {
			changed++
		}
	})
	if changed < 1500 {
		t.Errorf("only %d changed", changed)
	}
}
