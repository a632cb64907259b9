package contract_test

import (
	"maps"
	"math/rand"
	"slices"
	"testing"

	"novation/api"
	"novation/contract"
)

// P9.3; that they return Check's error, and nothing else, is in checkError.

func checkFacts(t *testing.T, c api.Contract, parties, currencies []string, horizon int) {
	t.Helper()
	if l, e := contract.Parties(c); !slices.Equal(l, parties) || e != api.OK {
		t.Errorf("Parties(%s) = %q, %d, not %q", short(c), l, e, parties)
	}
	if l, e := contract.Currencies(c); !slices.Equal(l, currencies) || e != api.OK {
		t.Errorf("Currencies(%s) = %q, %d, not %q", short(c), l, e, currencies)
	}
	if n, e := contract.Horizon(c); n != horizon || e != api.OK {
		t.Errorf("Horizon(%s) = %d, %d, not %d", short(c), n, e, horizon)
	}
}

func pick(party, name string, a, b api.Contract) api.Contract {
	return api.Contract{Kind: api.ConPick, From: party, Name: name, Sub: []api.Contract{a, b}}
}

func call(party, name string, c api.Contract, days ...int) api.Contract {
	return api.Contract{Kind: api.ConCall, From: party, Name: name, Dates: days, Sub: []api.Contract{c}}
}

func TestPartiesAndCurrencies(t *testing.T) {
	ab, ba, bc := pay("a", "b", "USD", con("1")), pay("b", "a", "EUR", con("2")), pay("b", "c", "USD", now("x"))
	for _, k := range []struct {
		c                   api.Contract
		parties, currencies []string
	}{
		{zero(), nil, nil}, {both(zero(), zero()), nil, nil}, {at(zero(), 5), nil, nil}, {api.Contract{Kind: api.ConScale, Expr: now("a"), Sub: []api.Contract{zero()}}, nil, nil},
		{ab, []string{"a", "b"}, []string{"USD"}}, {ba, []string{"a", "b"}, []string{"EUR"}}, {both(ab, ba), []string{"a", "b"}, []string{"EUR", "USD"}}, {both(ba, ab), []string{"a", "b"}, []string{"EUR", "USD"}}, {both(ab, ab), []string{"a", "b"}, []string{"USD"}}, {both(bc, ab), []string{"a", "b", "c"}, []string{"USD"}},
		// The name of a choice is no currency, and the party of a choice may be paid or not.
		{pick("z", "JPY", zero(), zero()), []string{"z"}, nil}, {call("z", "JPY", zero(), 1), []string{"z"}, nil}, {pick("b", "JPY", ab, zero()), []string{"a", "b"}, []string{"USD"}}, {call("A", "JPY", ab, 1), []string{"A", "a", "b"}, []string{"USD"}}, {pick("p", "x", pick("o", "x", zero(), zero()), call("o", "y", zero(), 5)), []string{"o", "p"}, nil},
		// Names of fixings are neither.
		{pay("q", "p", "q", fix("x", 1)), []string{"p", "q"}, []string{"q"}},
		// Bytewise: capitals first, - before digits before letters, a prefix before what it begins.
		{both(both(pay("a", "aa", "z", con("1")), pay("a-", "a0", "Z", con("1"))), both(pay("a_", "A", "z-", con("1")), pay("aA", "Z", "z0", con("1")))), []string{"A", "Z", "a", "a-", "a0", "aA", "a_", "aa"}, []string{"Z", "z", "z-", "z0"}},
	} {
		checkFacts(t, k.c, k.parties, k.currencies, horizonOf(k.c))
	}
}

// TestManyNames has all names in other orders, each several times.
func TestManyNames(t *testing.T) {
	r := rand.New(rand.NewSource(4))
	for range 50 {
		var l []api.Contract
		for i, j := range append(r.Perm(len(names)), r.Perm(len(names))...) {
			l = append(l, pay(names[j], names[(j+1)%len(names)], names[i%len(names)], con("1")))
		}
		for len(l) > 1 {
			l = append(l[2:], both(l[0], l[1]))
		}
		checkFacts(t, l[0], names, names, 0)
	}
}

func TestHorizons(t *testing.T) {
	one := con("1")
	atDay := func(day int, c api.Contract) api.Contract {
		return api.Contract{Kind: api.ConAt, Date: day, Sub: []api.Contract{c}}
	}
	until := func(x api.Expr, c api.Contract, days ...int) api.Contract {
		return api.Contract{Kind: api.ConUntil, Expr: x, Dates: days, Sub: []api.Contract{c}}
	}
	for _, k := range []struct {
		c    api.Contract
		want int
	}{
		{zero(), 0}, {both(zero(), zero()), 0}, {pay("p", "q", "EUR", one), 0}, {pay("p", "q", "EUR", now("a")), 0}, {pick("p", "n", zero(), zero()), 0},
		{atDay(0, zero()), 0}, {atDay(7, zero()), 7}, {atDay(api.MaxDate, zero()), api.MaxDate}, {atDay(7, atDay(9, zero())), 9}, {atDay(9, atDay(7, zero())), 9}, {both(atDay(9, zero()), atDay(7, zero())), 9}, {both(atDay(7, zero()), atDay(9, zero())), 9},
		{call("p", "n", zero(), 0), 0}, {call("p", "n", zero(), 5), 5}, {call("p", "n", zero(), 5, 6, 77), 77}, {call("p", "n", atDay(78, zero()), 5, 6, 77), 78}, {call("p", "n", atDay(76, zero()), 5, 6, 77), 77}, {call("p", "n", zero(), daysFrom(200, 100)...), 299}, {until(yes(), zero(), 3, 4), 4},
		{pay("p", "q", "EUR", fix("a", 0)), 0}, {pay("p", "q", "EUR", fix("a", 12)), 12}, {pay("p", "q", "EUR", fix("a", api.MaxDate)), api.MaxDate}, {pay("p", "q", "EUR", expr(api.ExprAdd, fix("a", 12), fix("a", 13))), 13}, {pay("p", "q", "EUR", expr(api.ExprAdd, fix("a", 13), fix("a", 12))), 13}, {pay("p", "q", "EUR", expr(api.ExprMax, one, expr(api.ExprMin, fix("a", 12), one))), 12},
		{until(expr(api.ExprLess, fix("a", 55), one), zero(), 3, 4), 55}, {until(expr(api.ExprLess, fix("a", 2), one), zero(), 3, 4), 4}, {until(not(expr(api.ExprLess, one, fix("a", 5)), 9), zero(), 3, 4), 5}, {until(expr(api.ExprLess, fix("a", 2), one), atDay(5, zero()), 3, 4), 5},
		{api.Contract{Kind: api.ConScale, Expr: fix("a", 8), Sub: []api.Contract{zero()}}, 8}, {api.Contract{Kind: api.ConIf, Expr: expr(api.ExprEqual, fix("a", 8), one), Sub: []api.Contract{atDay(7, zero()), zero()}}, 8}, {api.Contract{Kind: api.ConIf, Expr: expr(api.ExprEqual, fix("a", 8), one), Sub: []api.Contract{zero(), atDay(9, zero())}}, 9},
		{atDay(10, pay("p", "q", "EUR", fix("a", 9))), 10}, {atDay(9, pay("p", "q", "EUR", fix("a", 10))), 10}, {pick("p", "n", atDay(4, zero()), call("p", "n", pay("p", "q", "EUR", fix("a", 11)), 12)), 12},
	} {
		if n, e := contract.Horizon(k.c); n != k.want || e != api.OK {
			t.Errorf("Horizon(%s) = %d, %d, not %d", short(k.c), n, e, k.want)
		}
		if horizonOf(k.c) != k.want {
			t.Errorf("the test expects %d of %s", horizonOf(k.c), short(k.c))
		}
	}
}

// factsOf collects the parties and the currencies of a contract.
func factsOf(c api.Contract, parties, currencies map[string]bool) {
	switch c.Kind {
	case api.ConPay:
		parties[c.From], parties[c.To], currencies[c.Name] = true, true, true
	case api.ConPick, api.ConCall:
		parties[c.From] = true
	}
	for _, part := range c.Sub {
		factsOf(part, parties, currencies)
	}
}

func horizonOf(c api.Contract) int {
	n := max(c.Date, horizonOfExpr(c.Expr))
	if len(c.Dates) > 0 {
		n = max(n, slices.Max(c.Dates))
	}
	for _, part := range c.Sub {
		n = max(n, horizonOf(part))
	}
	return n
}

func horizonOfExpr(x api.Expr) int {
	n := x.Date
	for _, part := range x.Sub {
		n = max(n, horizonOfExpr(part))
	}
	return n
}

func TestFactsOfRandomContracts(t *testing.T) {
	samples(5, 3000, func(r *rand.Rand, c api.Contract) {
		parties, currencies := map[string]bool{}, map[string]bool{}
		factsOf(c, parties, currencies)
		checkFacts(t, c, slices.Sorted(maps.Keys(parties)), slices.Sorted(maps.Keys(currencies)), horizonOf(c))
	})
}

func TestLargestContracts(t *testing.T) {
	checkFacts(t, sized(500), []string{"p", "q"}, []string{"EUR"}, 0)
	for _, c := range deep(60) {
		parties, currencies := map[string]bool{}, map[string]bool{}
		factsOf(c, parties, currencies)
		checkFacts(t, c, slices.Sorted(maps.Keys(parties)), slices.Sorted(maps.Keys(currencies)), horizonOf(c))
	}
	checkFacts(t, at(call("p", "n", pay("a", "b", "EUR", deepNumber(57)), api.MaxDate), 1), []string{"a", "b", "p"}, []string{"EUR"}, api.MaxDate)
}
