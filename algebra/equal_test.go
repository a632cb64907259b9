package algebra_test

import (
	"math/rand"
	"testing"

	"novation/algebra"
	"novation/api"
)

// P11.1: Equal

// checkEqual checks whether two contracts are equal, in both orders, and as the model says.
func checkEqual(t *testing.T, a, b api.Contract, want bool) {
	t.Helper()
	for _, k := range [][2]api.Contract{{a, b}, {b, a}} {
		if is, e := algebra.Equal(k[0], k[1]); e != api.OK || is != want {
			t.Errorf("Equal(%s, %s) = %v, %d", short(k[0]), short(k[1]), is, e)
		}
	}
	if is := alikeContracts(simpleContract(a), simpleContract(b)); is != want {
		t.Errorf("in the model, %v for %s and %s", is, short(a), short(b))
	}
}

// disguises are contracts that become c when they are simplified.
func disguises(c api.Contract) []api.Contract {
	return []api.Contract{
		c, both(zero(), c), both(c, zero()), both(c, pay(con("0"))), both(at(5, at(4, one())), c), scale(con("1"), c), scale(mul(con("2"), con("1/2")), c), branch(yes(), c, d), branch(no(), d, c), branch(less(x, x), d, c), branch(p, c, c), pick("Ann", "side", c, both(c, zero())), until(no(), dates, c), until(not(equal(y, y)), dates, c), both(when(no(), dates, d), scale(con("1"), both(c, scale(con("0"), d)))),
	}
}

func TestEqualWhenSimplified(t *testing.T) {
	l := []api.Contract{zero(), one(), c, d, at(5, c), at(5, at(5, c)), both(c, d), both(c, c), scale(x, c), branch(p, c, d), call("Ann", "right", dates, c), until(p, dates, c), when(p, dates, c), when(yes(), dates, c), until(yes(), dates, c), balanced(40)}
	for i, a := range l {
		for _, b := range disguises(a) {
			for _, other := range disguises(a) {
				checkEqual(t, b, other, true)
			}
			for j, other := range l {
				checkEqual(t, b, other, i == j)
			}
		}
	}
}

// TestEqualContracts has the examples of stage 11, and more that are the same only in part.
func TestEqualContracts(t *testing.T) {
	for _, k := range []struct {
		a, b api.Contract
		want bool
	}{
		{scale(sub(mul(con("2"), con("3")), con("5")), both(zero(), pay(con("4")))), pay(con("4")), true},
		{both(at(9, at(8, c)), c), c, true}, {both(at(9, at(8, c)), c), one(), false}, {both(at(8, at(9, c)), c), c, false},
		{pay(add(con("1/6"), con("1/3"))), pay(con("1/2")), true}, {pay(add(x, con("0"))), pay(x), true}, {pay(add(x, y)), pay(add(y, x)), false}, {pay(add(x, x)), pay(mul(con("2"), x)), false}, {scale(con("2"), c), pay(mul(x, con("2"))), false}, {scale(con("2"), pay(con("3"))), pay(con("6")), true}, {scale(con("2"), scale(con("3"), c)), scale(con("6"), c), false},
		{both(c, d), both(d, c), false}, {both(both(c, d), c), both(c, both(d, c)), false}, {branch(p, c, d), branch(not(p), d, c), false}, {branch(not(not(p)), c, d), branch(p, c, d), true}, {pay(con("1")), paid("Bob", "Ann", "USD", con("-1")), false},
		{pay(con("0")), scale(x, zero()), true}, {pay(con("0")), paid("Cid", "Dan", "EUR", con("0")), true}, {when(no(), dates, c), at(5, at(4, d)), true}, {when(yes(), dates, c), c, false}, {until(yes(), dates, c), zero(), false}, {until(p, dates, c), until(p, []int{3, 6}, c), false}, {call("Ann", "right", dates, c), call("Ann", "left", dates, c), false}, {at(5, c), at(6, c), false},
	} {
		checkEqual(t, k.a, k.b, k.want)
		checkEqual(t, at(3, k.a), at(3, k.b), k.want)
		checkEqual(t, branch(q, k.a, d), branch(q, k.b, d), k.want)
	}
}

// TestEqualLargeContracts has contracts that differ in one field, far down.
func TestEqualLargeContracts(t *testing.T) {
	a := balanced(80)
	checkEqual(t, a, copyOf(a), true)
	for _, b := range differentContracts(a) {
		checkEqual(t, a, b, false)
		checkEqual(t, both(a, b), both(a, a), false)
		checkEqual(t, b, copyOf(b), true)
	}
}

func TestEqualLikeTheModel(t *testing.T) {
	var last api.Contract
	equal := 0
	samples(3, func(r *rand.Rand, c api.Contract, day int, v api.Env) {
		checkEqual(t, c, simpleContract(c), true)
		if last.Kind > 0 {
			want := alikeContracts(simpleContract(c), simpleContract(last))
			checkEqual(t, c, last, want)
			if want {
				equal++
			}
		}
		last = c
	})
	if equal < 100 || equal > 2000 {
		t.Errorf("%d are equal", equal)
	}
}
