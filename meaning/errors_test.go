package meaning_test

import (
	"math"
	"slices"
	"testing"

	"novation/api"
	"novation/contract"
	"novation/meaning"
	"novation/observable"
)

// P10.1: errors

// badContracts are contracts that are not valid, each with its error.
func badContracts() map[*api.Contract]api.Errno {
	deep := one()
	for range api.MaxDepth {
		deep = at(1, deep)
	}
	large := all(slices.Repeat([]api.Contract{one()}, 168))
	worse := both(large, api.Contract{})
	return map[*api.Contract]api.Errno{
		{}: api.ErrBad, {Kind: 11}: api.ErrBad, ptr(of(api.ConBoth, one())): api.ErrBad, ptr(pay(yes())): api.ErrBad, ptr(pay(api.Expr{})): api.ErrBad, ptr(paid("Ann", "Ann", "USD", con("1"))): api.ErrBad, ptr(paid("Ann", "Bob", "", con("1"))): api.ErrBad,
		ptr(scale(con("2/4"), one())): api.ErrBad, ptr(at(-1, one())): api.ErrBad, ptr(at(api.MaxDate+1, one())): api.ErrBad, ptr(until(con("1"), []int{1}, one())): api.ErrBad, ptr(when(yes(), nil, one())): api.ErrBad, ptr(call("Bob", "more", []int{2, 2}, one())): api.ErrBad, ptr(call("Bob", "more", make([]int, 101), one())): api.ErrBad,
		ptr(both(one(), branch(yes(), zero(), of(0)))): api.ErrBad, ptr(deep): api.ErrMany, ptr(large): api.ErrMany, ptr(worse): api.ErrMany,
	}
}

// badEnvs are what cannot be known, each with its error.
func badEnvs() map[*api.Env]api.Errno {
	f, c := api.Fixing{Name: "spot", Date: 1, Value: "2"}, api.Choice{Party: "Bob", Name: "more", Date: 1}
	l := map[*api.Env]api.Errno{
		{Fixings: []api.Fixing{f, f}}: api.ErrBad, {Choices: []api.Choice{c, c}}: api.ErrBad, {Fixings: []api.Fixing{{}}}: api.ErrBad, {Choices: []api.Choice{{}}}: api.ErrBad,
		{Fixings: make([]api.Fixing, api.MaxTable)}: api.ErrBad, {Fixings: make([]api.Fixing, api.MaxTable+1)}: api.ErrMany, {Choices: make([]api.Choice, api.MaxTable+1)}: api.ErrMany, {Fixings: []api.Fixing{f, f}, Choices: make([]api.Choice, api.MaxTable+1)}: api.ErrMany,
		{Fixings: []api.Fixing{{Name: "spot", Date: 2, Value: "1"}, f}}: api.ErrBad, {Fixings: []api.Fixing{f, {Name: "rate", Date: 1, Value: "1"}}}: api.ErrBad,
	}
	for _, date := range noDays {
		l[&api.Env{Fixings: []api.Fixing{{Name: "spot", Date: date, Value: "1"}}}] = api.ErrBad
		l[&api.Env{Choices: []api.Choice{{Party: "Bob", Name: "more", Date: date}}}] = api.ErrBad
	}
	for _, name := range noNames {
		l[&api.Env{Fixings: []api.Fixing{{Name: name, Date: 1, Value: "1"}}}] = api.ErrBad
		l[&api.Env{Choices: []api.Choice{{Party: "Bob", Name: name, Date: 1}}}] = api.ErrBad
		l[&api.Env{Choices: []api.Choice{{Party: name, Name: "more", Date: 1}}}] = api.ErrBad
	}
	for _, value := range []api.Rat{"", "x", "2/4", "-0", tens(1000)} {
		l[&api.Env{Fixings: []api.Fixing{{Name: "spot", Date: 1, Value: value}}}] = api.ErrBad
	}
	return l
}

// checkRefused checks that a question has an error whatever the days are; with those that are days, and others.
func checkRefused(t *testing.T, c api.Contract, v api.Env, want api.Errno) {
	t.Helper()
	for _, day := range append(someDays[:2:2], noDays...) {
		if l, e := meaning.Flows(c, day, v); e != want || len(l) > 0 {
			t.Errorf("Flows(%s, %d, %s) = %s, %d, not %d", short(c), day, short(v), short(l), e, want)
		}
		for _, end := range append(someDays[:2:2], noDays...) {
			if l, e := meaning.Before(c, day, end, v); e != want || len(l) > 0 {
				t.Errorf("Before(%s, %d, %d, %s) = %s, %d, not %d", short(c), day, end, short(v), short(l), e, want)
			}
		}
	}
}

func TestBadContracts(t *testing.T) {
	envs := badEnvs()
	envs[&api.Env{}] = api.OK
	for c, want := range badContracts() {
		if e := contract.Check(*c); e != want {
			t.Fatal(short(*c), e)
		}
		for v := range envs {
			checkRefused(t, *c, *v, want)
		}
	}
}

func TestBadEnvs(t *testing.T) {
	for v, want := range badEnvs() {
		if e := observable.CheckEnv(*v); e != want {
			t.Fatal(short(*v), e)
		}
		for _, c := range []api.Contract{zero(), one(), pay(missing()), pay(huge()), pay(now("spot"))} {
			checkRefused(t, c, *v, want)
		}
	}
}

// TestDaysAndEnds has all days and ends at, below and above the ends of their range.
func TestDaysAndEnds(t *testing.T) {
	days := append(someDays[:len(someDays):len(someDays)], noDays...)
	for _, day := range days {
		isDay := day >= 0 && day <= api.MaxDate
		if l, e := meaning.Flows(pay(missing()), day, api.Env{}); len(l) > 0 || isDay != (e == api.ErrFix) || !isDay && e != api.ErrArg {
			t.Error(day, short(l), e)
		}
		for _, c := range []api.Contract{zero(), both(zero(), zero()), call("Bob", "more", []int{3}, one()), when(no(), []int{api.MaxDate}, one())} {
			if l, e := meaning.Flows(c, day, api.Env{}); len(l) > 0 || isDay != (e == api.OK) || !isDay && e != api.ErrArg {
				t.Error(day, short(c), short(l), e)
			}
		}
		if l, e := meaning.Flows(one(), day, api.Env{}); isDay != slices.Equal(l, []api.Flow{flow(day, "1")}) || isDay != (e == api.OK) {
			t.Error(day, short(l), e)
		}
		for _, end := range append(days[:len(days):len(days)], api.MaxDate+1) {
			want, amount := api.OK, api.OK
			switch {
			case !isDay || end < 0 || end > api.MaxDate+1:
				want, amount = api.ErrArg, api.ErrArg
			case day < end:
				amount = api.ErrFix
			}
			var flows []api.Flow
			if amount == api.ErrFix {
				flows = append(flows, flow(day, "1"))
			}
			if l, e := meaning.Before(one(), day, end, api.Env{}); e != want || !slices.Equal(l, flows) {
				t.Error(day, end, short(l), e)
			}
			if l, e := meaning.Before(zero(), day, end, api.Env{}); e != want || len(l) > 0 {
				t.Error(day, end, short(l), e)
			}
			if l, e := meaning.Before(pay(missing()), day, end, api.Env{}); e != amount || len(l) > 0 {
				t.Error(day, end, short(l), e)
			}
		}
	}
	for _, k := range [][2]int{{0, api.MaxDate + 1}, {api.MaxDate, api.MaxDate + 1}, {0, 0}, {math.MaxInt, 1}, {1, math.MinInt}} {
		want := api.OK
		if k[0] > api.MaxDate || k[1] < 0 {
			want = api.ErrArg
		}
		if l, e := meaning.Before(zero(), k[0], k[1], api.Env{}); e != want || len(l) > 0 {
			t.Error(k, short(l), e)
		}
	}
}

// TestFirstErrorOfEvaluation has two parts with different errors in each order.
func TestFirstErrorOfEvaluation(t *testing.T) {
	fails := map[api.Errno][]api.Contract{
		api.ErrFix: {pay(missing()), scale(missing(), one()), branch(unknown(), one(), one()), until(unknown(), []int{1, 2}, one()), when(unknown(), []int{2}, one()), at(2, pay(missing())), call("Bob", "more", []int{1, 2}, pay(missing())), pick("Bob", "more", zero(), pay(missing())), pay(fix("spot", 4))},
		api.ErrBig: {pay(huge()), scale(huge(), one()), branch(tooHuge(), one(), one()), until(tooHuge(), []int{1, 2}, one()), when(tooHuge(), []int{2}, one()), at(2, pay(huge())), call("Bob", "more", []int{1, 2}, pay(huge())), pick("Bob", "more", zero(), pay(huge())), scale(con(tens(999)), pay(con("10"))), pay(expr(api.ExprMul, now("long"), con("10")))},
	}
	v := chose("Bob", "more", 2, "y")
	v.Fixings = []api.Fixing{{Name: "long", Date: 1, Value: tens(999)}, {Name: "spot", Date: 3, Value: "1"}}
	for _, a := range fails[api.ErrFix] {
		checkError(t, a, 1, v, api.ErrFix)
		for _, b := range fails[api.ErrBig] {
			checkError(t, b, 1, v, api.ErrBig)
			checkError(t, both(a, b), 1, v, api.ErrFix)
			checkError(t, both(b, a), 1, v, api.ErrBig)
			checkError(t, both(both(one(), a), both(b, one())), 1, v, api.ErrFix)
			checkError(t, both(scale(con("0"), b), a), 1, v, api.ErrBig)
			checkError(t, pick("Ann", "more", a, b), 1, v, api.ErrBig)
			checkError(t, pick("Ann", "more", b, a), 1, v, api.ErrFix)
		}
	}
}
