package algebra_test

import (
	"math/rand"
	"slices"
	"testing"

	"novation/algebra"
	"novation/api"
	"novation/meaning"
	"novation/observable"
)

// P11.2

// An outcome is what an expression has on a day: a value, a truth, or an error.
type outcome struct {
	value api.Rat
	is    bool
	e     api.Errno
}

func outcomeOf(x api.Expr, day int, v api.Env) (o outcome) {
	if sortOf(x) == 'n' {
		o.value, o.e = observable.Value(x, day, v)
	} else {
		o.is, o.e = observable.Holds(x, day, v)
	}
	return o
}

// TestValuesStay has random expressions on all days on which they have a value.
func TestValuesStay(t *testing.T) {
	seen := map[bool]int{}
	exprSamples(4, func(r *rand.Rand, x api.Expr, day int, v api.Env) {
		y, e := algebra.Expression(x)
		if e != api.OK || sortOf(x) != sortOf(y) {
			t.Errorf("Expression(%s) = %s, %d", short(x), short(y), e)
			return
		}
		for day := range 9 {
			before, after := outcomeOf(x, day, v), outcomeOf(y, day, v)
			if before.e == api.OK && before != after {
				t.Errorf("%s is %v on %d, but %s is %v", short(x), before, day, short(y), after)
			}
			if before.e == api.OK {
				seen[alike(x, y)]++
			}
		}
	})
	if seen[true] < 1000 || seen[false] < 3000 {
		t.Errorf("too few of a kind: %v", seen)
	}
}

// TestValuesOfRules has each rule with values of all signs.
func TestValuesOfRules(t *testing.T) {
	compared := 0
	for _, k := range exprChanges() {
		for _, in := range append(places(), place{'n', func(z api.Expr) api.Expr { return z }}, place{'t', func(z api.Expr) api.Expr { return z }}) {
			if in.sort != sortOf(k.from) {
				continue
			}
			from := in.put(k.from)
			to, _ := algebra.Expression(from)
			for _, a := range []api.Rat{"-3/2", "0", "1", "7"} {
				for _, b := range []api.Rat{"-1", "0", "1", "5/3"} {
					v := api.Env{Fixings: []api.Fixing{{Name: "p", Date: 4, Value: b}, {Name: "r", Date: 4, Value: b}, {Name: "s", Date: 4, Value: a}, {Name: "u", Date: 4, Value: a}, {Name: "w", Date: 3, Value: b}, {Name: "x", Date: 4, Value: a}, {Name: "y", Date: 7, Value: b}}}
					before, after := outcomeOf(from, 4, v), outcomeOf(to, 4, v)
					if before.e != api.OK || before != after {
						t.Errorf("%s is %v, but %s is %v", short(from), before, short(to), after)
					}
					compared++
				}
			}
		}
	}
	if compared < 3000 {
		t.Errorf("only %d", compared)
	}
}

// checkMeaning checks that a contract means what it meant, if its meaning has no error, and tells how many flows it has.
func checkMeaning(t *testing.T, c, d api.Contract, day int, v api.Env) int {
	t.Helper()
	before, e := meaning.Flows(c, day, v)
	if e != api.OK {
		return 0
	}
	if after, e := meaning.Flows(d, day, v); e != api.OK || !slices.Equal(before, after) {
		t.Errorf("%s on %d with %s means %s, but %s means %s, %d", short(c), day, short(v), short(before), short(d), short(after), e)
	}
	return len(before)
}

// TestMeaningsStay has random contracts, acquired on several days.
func TestMeaningsStay(t *testing.T) {
	flows, changed := 0, 0
	samples(5, func(r *rand.Rand, c api.Contract, day int, v api.Env) {
		simplified, e := algebra.Simplify(c)
		if e != api.OK {
			t.Errorf("Simplify(%s) is error %d", short(c), e)
			return
		}
		for day := range 6 {
			n := checkMeaning(t, c, simplified, day, v)
			flows += n
			if n > 0 && !alikeContracts(c, simplified) {
				changed++
			}
		}
	})
	if flows < 5000 || changed < 1500 {
		t.Errorf("only %d flows, %d changed", flows, changed)
	}
}

// TestMeaningsOfRules has each rule in each place, with choices and conditions that go both ways.
func TestMeaningsOfRules(t *testing.T) {
	flows := 0
	contractSamples(func(from api.Contract) {
		to, _ := algebra.Simplify(from)
		for _, a := range []api.Rat{"-3/2", "0", "1"} {
			for day := range 7 {
				var v api.Env
				for _, name := range []string{"other", "p", "r", "u", "x", "y"} {
					for date := range 8 {
						value := a
						if name != "x" && name != "u" {
							value = []api.Rat{"1", "-2"}[date/4]
						}
						v.Fixings = append(v.Fixings, api.Fixing{Name: name, Date: date, Value: value})
					}
				}
				for _, name := range []string{"right", "side", "way"} {
					v.Choices = append(v.Choices, api.Choice{Party: "Ann", Name: name, Date: day, First: true})
				}
				flows += checkMeaning(t, from, to, day, v)
			}
		}
	})
	if flows < 1000 {
		t.Errorf("only %d", flows)
	}
}

// contractSamples calls f with each rule for contracts in each place.
func contractSamples(f func(api.Contract)) {
	for _, k := range contractChanges() {
		f(k.from)
		for _, in := range contractPlaces() {
			f(in(k.from))
		}
	}
}

// TestEqualContractsMeanTheSame has contracts that are equal to random ones.
func TestEqualContractsMeanTheSame(t *testing.T) {
	flows := 0
	samples(6, func(r *rand.Rand, a api.Contract, day int, v api.Env) {
		b := oneOf(r, disguises(a))
		is, e := algebra.Equal(a, b)
		if e == api.ErrMany {
			return
		}
		if e != api.OK || !is {
			t.Errorf("Equal(%s, %s) = %v, %d", short(a), short(b), is, e)
		}
		l, e := meaning.Flows(a, day, v)
		m, f := meaning.Flows(b, day, v)
		if e == api.OK && f == api.OK && !slices.Equal(l, m) {
			t.Errorf("%s means %s, but %s means %s", short(a), short(l), short(b), short(m))
		}
		flows += len(m)
	})
	if flows < 500 {
		t.Errorf("only %d", flows)
	}
}

// TestErrorsMayGo has expressions and contracts without a value that have one when they are simplified.
func TestErrorsMayGo(t *testing.T) {
	for z, want := range map[*api.Expr]outcome{{Kind: api.ExprSub, Sub: []api.Expr{x, x}}: {value: "0"}, {Kind: api.ExprMul, Sub: []api.Expr{x, con("0")}}: {value: "0"}, {Kind: api.ExprAnd, Sub: []api.Expr{p, no()}}: {}, {Kind: api.ExprOr, Sub: []api.Expr{p, yes()}}: {is: true}, {Kind: api.ExprEqual, Sub: []api.Expr{y, y}}: {is: true}} {
		simplified, _ := algebra.Expression(*z)
		if before, after := outcomeOf(*z, 3, api.Env{}), outcomeOf(simplified, 3, api.Env{}); before.e != api.ErrFix || after != want {
			t.Errorf("%s is %v, but %s is %v", short(*z), before, short(simplified), after)
		}
	}
	simplified, _ := algebra.Simplify(scale(x, zero()))
	if l, e := meaning.Flows(simplified, 3, api.Env{}); e != api.OK || len(l) > 0 {
		t.Error(short(l), e)
	}
}
