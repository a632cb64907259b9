package contract_test

import (
	"testing"

	"novation/api"
)

// P9.1

func TestSizes(t *testing.T) {
	for _, n := range []int{1, 2, 3, 4, 5, 100, 498, 499, 500} {
		checkError(t, sized(n), api.OK)
	}
	for _, n := range []int{499, 500, 501} {
		want := api.OK
		if n > 500 {
			want = api.ErrMany
		}
		for _, c := range everywhere(sized(n - 10))[1:] {
			// The other parts have different sizes.
			c = both(c, sized(n-1-sizeOf(c)))
			if sizeOf(c) != n {
				t.Fatalf("a size of %d, not %d: %s", sizeOf(c), n, short(c))
			}
			checkError(t, c, want)
		}
	}
	for _, n := range []int{501, 502, 503, 1000, 5001, 100000} {
		checkError(t, sized(n), api.ErrMany)
	}
}

// TestSizesOfExpressions has expressions that are valid themselves, but too large with their contracts.
func TestSizesOfExpressions(t *testing.T) {
	for _, k := range []struct {
		c    api.Contract
		want api.Errno
	}{
		{pay("p", "q", "EUR", number(499)), api.OK},
		{pay("p", "q", "EUR", expr(api.ExprWhen, yes(), con("1"), number(495))), api.ErrMany}, // an expression of 500 nodes
		{pay("p", "q", "EUR", number(501)), api.ErrMany},
		{pay("p", "q", "EUR", number(5001)), api.ErrMany},
		{both(pay("p", "q", "EUR", number(249)), pay("p", "q", "EUR", number(247))), api.OK},           // 499
		{both(pay("p", "q", "EUR", number(249)), pay("p", "q", "EUR", number(249))), api.ErrMany},      // 501
		{both(zero(), both(pay("p", "q", "EUR", number(247)), sized(248))), api.OK},                    // 499
		{both(zero(), both(pay("p", "q", "EUR", number(247)), sized(249))), api.OK},                    // 500
		{both(zero(), both(pay("p", "q", "EUR", number(247)), sized(250))), api.ErrMany},               // 501
		{api.Contract{Kind: api.ConScale, Expr: number(397), Sub: []api.Contract{sized(102)}}, api.OK}, // 500
		{api.Contract{Kind: api.ConScale, Expr: number(397), Sub: []api.Contract{sized(103)}}, api.ErrMany},
	} {
		checkError(t, k.c, k.want)
	}
	for _, kind := range []uint8{api.ConIf, api.ConUntil, api.ConWhen} {
		r, c := exampleOf(kind)
		c.Expr = expr(api.ExprEqual, number(399), number(1)) // 401
		c.Sub[0] = sized(500 - 402 - (r.below - 1))
		checkError(t, c, api.OK)
		c.Sub[0] = sized(501 - 402 - (r.below - 1))
		checkError(t, c, api.ErrMany)
	}
}

func TestDepths(t *testing.T) {
	for _, n := range []int{5, 30, 59, 60, 61, 62, 100} {
		want := api.OK
		if n > 60 {
			want = api.ErrMany
		}
		for _, c := range deep(n) {
			if depthOf(c) != n {
				t.Fatalf("a depth of %d, not %d: %s", depthOf(c), n, short(c))
			}
			checkError(t, c, want)
		}
	}
	checkError(t, zero(), api.OK)
	checkError(t, at(zero(), 59), api.OK)
	checkError(t, at(zero(), 60), api.ErrMany)
	checkError(t, at(zero(), 60000), api.ErrMany)
	checkError(t, pay("p", "q", "EUR", deepNumber(59)), api.OK)
	checkError(t, pay("p", "q", "EUR", deepNumber(60)), api.ErrMany) // though the expression is valid
	checkError(t, api.Contract{Kind: api.ConWhen, Expr: deepTruth(60000), Dates: []int{1}, Sub: []api.Contract{zero()}}, api.ErrMany)
}

// TestLimitsComeFirst has contracts that are not well-formed, and may be too large or too deep as well.
func TestLimitsComeFirst(t *testing.T) {
	for kind := range uint8(13) {
		for n, want := range map[int]api.Errno{498: api.ErrBad, 499: api.ErrBad, 500: api.ErrMany, 501: api.ErrMany, 100000: api.ErrMany} {
			checkError(t, api.Contract{Kind: kind, Sub: make([]api.Contract, n)}, want)
			// All nodes count, in contracts that must not be there as well.
			checkError(t, of(kind, zero(), zero(), api.Contract{Sub: make([]api.Contract, n-4)}, zero()), want)
			// A payment to nobody with an expression that is too large.
			checkError(t, api.Contract{Kind: kind, Sub: []api.Contract{{Kind: api.ConPay, Expr: api.Expr{Sub: make([]api.Expr, n-2)}}}}, want)
		}
		c := api.Contract{Kind: kind, To: "?"}
		for n := 1; n <= 62; n++ {
			want := api.ErrBad
			if n > 60 {
				want = api.ErrMany
			}
			checkError(t, c, want)
			c = of(kind, c)
			c.To = "?"
		}
	}
	for n, want := range map[int]api.Errno{60: api.ErrBad, 61: api.ErrMany} {
		for _, c := range deep(n) {
			c.From = "a b"
			checkError(t, c, want)
		}
	}
	for n, want := range map[int]api.Errno{400: api.ErrBad, 499: api.ErrBad, 500: api.ErrBad, 501: api.ErrMany} {
		c := sized(n)
		c.Dates = []int{-1}
		checkError(t, c, want)
		checkError(t, both(of(0), sized(n-2)), want)
		checkError(t, both(sized(n-2), of(0)), want)
	}
}

// TestExpressionsThatMustNotBeThere count if they are not zero, also in a contract whose kind has none.
func TestExpressionsThatMustNotBeThere(t *testing.T) {
	for _, kind := range []uint8{0, api.ConZero, api.ConBoth, api.ConAt, api.ConPick, api.ConCall, 11, 255} {
		for n, want := range map[int]api.Errno{1: api.ErrBad, 497: api.ErrBad, 499: api.ErrBad, 501: api.ErrMany, 5001: api.ErrMany} {
			checkError(t, api.Contract{Kind: kind, Expr: number(n)}, want)
		}
		for n, want := range map[int]api.Errno{2: api.ErrBad, 59: api.ErrBad, 60: api.ErrMany, 61: api.ErrMany, 5000: api.ErrMany} {
			checkError(t, api.Contract{Kind: kind, Expr: deepTruth(n)}, want)
		}
		// One node of any contents is one, but the zero expression is none.
		for _, x := range []api.Expr{{Kind: 1}, {Kind: 255}, {Rat: "1"}, {Name: "a"}, {Date: 1}} {
			checkError(t, api.Contract{Kind: kind, Expr: x, Sub: []api.Contract{sized(498)}}, api.ErrBad)
			checkError(t, api.Contract{Kind: kind, Expr: x, Sub: []api.Contract{sized(499)}}, api.ErrMany)
			checkError(t, api.Contract{Kind: kind, Expr: x, Sub: []api.Contract{at(zero(), 58)}}, api.ErrBad)
			checkError(t, api.Contract{Kind: kind, Expr: x, Sub: []api.Contract{at(zero(), 59)}}, api.ErrMany)
			checkError(t, at(api.Contract{Kind: kind, Expr: x}, 58), api.ErrBad)
			checkError(t, at(api.Contract{Kind: kind, Expr: x}, 59), api.ErrMany)
		}
		for _, x := range []api.Expr{{}, {Sub: []api.Expr{}}} {
			checkError(t, api.Contract{Kind: kind, To: "?", Expr: x, Sub: []api.Contract{sized(499)}}, api.ErrBad)
			checkError(t, api.Contract{Kind: kind, To: "?", Expr: x, Sub: []api.Contract{sized(500)}}, api.ErrMany)
			checkError(t, at(api.Contract{Kind: kind, To: "?", Expr: x}, 59), api.ErrBad)
			checkError(t, at(api.Contract{Kind: kind, To: "?", Expr: x}, 60), api.ErrMany)
		}
		// Zero expressions inside of another one are nodes of it.
		checkError(t, api.Contract{Kind: kind, Expr: api.Expr{Sub: make([]api.Expr, 498)}}, api.ErrBad)
		checkError(t, api.Contract{Kind: kind, Expr: api.Expr{Sub: make([]api.Expr, 499)}}, api.ErrMany)
	}
	// An expression that is missing counts as none as well.
	checkError(t, api.Contract{Kind: api.ConScale, Sub: []api.Contract{sized(499)}}, api.ErrBad)
	checkError(t, api.Contract{Kind: api.ConScale, Sub: []api.Contract{sized(500)}}, api.ErrMany)
}

// TestManyNodesInLittleMemory has parts that share their memory, so that there are far more nodes than could be counted.
func TestManyNodesInLittleMemory(t *testing.T) {
	c := zero()
	for range 8 {
		c = both(c, c)
	}
	if sizeOf(c) != 511 {
		t.Fatal(sizeOf(c))
	}
	checkError(t, c.Sub[0], api.OK)
	checkError(t, c, api.ErrMany)
	x := con("1")
	for range 5000 {
		c, x = both(c, c), expr(api.ExprAdd, x, x)
	}
	checkError(t, c, api.ErrMany)
	checkError(t, pay("p", "q", "EUR", x), api.ErrMany)
	checkError(t, api.Contract{Kind: api.ConZero, From: "p", Expr: x}, api.ErrMany)
	// A contract below itself.
	loop := make([]api.Contract, 1)
	loop[0] = api.Contract{Kind: api.ConAt, Sub: loop}
	checkError(t, loop[0], api.ErrMany)
}
