package meaning_test

import (
	"math/rand"
	"slices"
	"testing"

	"novation/api"
	"novation/contract"
)

// P10.1: what the flows are

func TestExample(t *testing.T) {
	x := expr(api.ExprMul, expr(api.ExprMax, expr(api.ExprSub, now("spot"), con("3")), con("0")), con("2"))
	v := fixed("spot", 5, "7/2")
	checkFlows(t, pay(x), 5, v, flow(5, "1"))
	checkFlows(t, scale(con("-3"), pay(x)), 5, v, back(5, "3"))
}

func TestZeroAndPayments(t *testing.T) {
	for _, day := range someDays {
		checkFlows(t, zero(), day, api.Env{})
		for _, a := range amounts {
			checkFlows(t, pay(con(a)), day, api.Env{}, flow(day, a))
			checkFlows(t, pay(con("-"+a)), day, api.Env{}, back(day, a))
		}
		checkFlows(t, pay(con("0")), day, api.Env{})
	}
	v := fixed("spot", 3, "5", "-5/2", "0", "", "1/3")
	checkFlows(t, pay(now("spot")), 3, v, flow(3, "5"))
	checkFlows(t, pay(now("spot")), 4, v, back(4, "5/2"))
	checkFlows(t, pay(now("spot")), 5, v)
	checkError(t, pay(now("spot")), 6, v, api.ErrFix)
	checkFlows(t, pay(now("spot")), 7, v, flow(7, "1/3"))
	checkFlows(t, pay(fix("spot", 4)), 7, v, back(7, "5/2"))
	checkFlows(t, pay(fix("spot", 7)), 3, v, flow(3, "1/3"))
	checkFlows(t, paid("Cid", "Ann", "Bob", con("-7/2")), 0, v, api.Flow{Date: 0, From: "Ann", To: "Cid", Ccy: "Bob", Amount: "7/2"})
}

func TestBoth(t *testing.T) {
	a, b := pay(con("2")), pay(con("-3"))
	checkFlows(t, both(a, b), 4, api.Env{}, flow(4, "2"), back(4, "3"))
	checkFlows(t, both(b, a), 4, api.Env{}, back(4, "3"), flow(4, "2"))
	checkFlows(t, both(a, a), 4, api.Env{}, flow(4, "2"), flow(4, "2"))
	checkFlows(t, both(zero(), a), 4, api.Env{}, flow(4, "2"))
	checkFlows(t, both(a, zero()), 4, api.Env{}, flow(4, "2"))
	checkError(t, both(a, pay(missing())), 4, api.Env{}, api.ErrFix)
	checkError(t, both(pay(missing()), a), 4, api.Env{}, api.ErrFix)
	checkError(t, both(pay(missing()), pay(huge())), 4, api.Env{}, api.ErrFix)
	checkError(t, both(pay(huge()), pay(missing())), 4, api.Env{}, api.ErrBig)
}

func TestScale(t *testing.T) {
	v := fixed("spot", 2, "3", "-1/2", "0", "1")
	c := both(pay(con("4")), both(pay(con("-1/3")), at(9, pay(con("6")))))
	for factor, want := range map[api.Rat][]api.Flow{
		"1": {flow(2, "4"), back(2, "1/3"), flow(9, "6")}, "-1": {back(2, "4"), flow(2, "1/3"), back(9, "6")},
		"1/2": {flow(2, "2"), back(2, "1/6"), flow(9, "3")}, "-3": {back(2, "12"), flow(2, "1"), back(9, "18")}, "0": {},
	} {
		checkFlows(t, scale(con(factor), c), 2, v, want...)
		checkFlows(t, scale(con(factor), both(zero(), c)), 2, v, want...)
	}
	// The factor is that of the day of the acquisition, not of the payment.
	checkFlows(t, scale(now("spot"), at(3, one())), 2, v, flow(3, "3"))
	checkFlows(t, at(3, scale(now("spot"), one())), 2, v, back(3, "1/2"))
	checkFlows(t, at(4, scale(now("spot"), one())), 2, v)
	checkFlows(t, scale(now("spot"), scale(now("spot"), pay(now("spot")))), 3, v, back(3, "1/8"))
	checkFlows(t, scale(con("2"), zero()), 2, v)
}

func TestScaleErrors(t *testing.T) {
	for x, want := range map[*api.Expr]api.Errno{ptr(missing()): api.ErrFix, ptr(huge()): api.ErrBig} {
		checkError(t, scale(*x, one()), 1, api.Env{}, want)
		checkError(t, scale(*x, zero()), 1, api.Env{}, want)
		checkError(t, scale(con("0"), pay(*x)), 1, api.Env{}, want)
		checkError(t, scale(con("2"), both(one(), pay(*x))), 1, api.Env{}, want)
	}
	checkError(t, scale(missing(), pay(huge())), 1, api.Env{}, api.ErrFix)
	checkError(t, scale(huge(), pay(missing())), 1, api.Env{}, api.ErrBig)
	// All flows of the contract come before the first product.
	long := pay(con(tens(600)))
	checkError(t, scale(con(tens(600)), both(long, pay(missing()))), 1, api.Env{}, api.ErrFix)
	checkError(t, both(scale(con(tens(600)), long), pay(missing())), 1, api.Env{}, api.ErrBig)
}

func ptr[T any](x T) *T {
	return &x
}

func TestLongProducts(t *testing.T) {
	checkFlows(t, scale(con(tens(499)), pay(con(tens(500)))), 1, api.Env{}, flow(1, tens(999)))
	checkFlows(t, scale(con("-"+tens(999)), one()), 1, api.Env{}, back(1, tens(999)))
	checkFlows(t, scale(con("1/"+tens(499)), pay(con("1/"+tens(500)))), 1, api.Env{}, flow(1, "1/"+tens(999)))
	checkFlows(t, scale(con("1/"+tens(999)), pay(con("-"+tens(999)))), 1, api.Env{}, back(1, "1"))
	checkFlows(t, scale(con("0"), pay(con(tens(999)))), 1, api.Env{})
	for _, c := range []api.Contract{
		scale(con(tens(500)), pay(con(tens(500)))), scale(con("10"), pay(con(tens(999)))), scale(con("-10"), pay(con("-"+tens(999)))), scale(con("1/"+tens(500)), pay(con("1/"+tens(500)))),
		pay(huge()), scale(con(tens(400)), scale(con(tens(400)), pay(con(tens(400))))), scale(con(tens(999)), both(one(), pay(con("10")))), scale(con(tens(999)), both(pay(con("-10")), one())),
		branch(tooHuge(), one(), one()), until(tooHuge(), []int{1}, one()), when(tooHuge(), []int{1}, one()),
	} {
		checkError(t, c, 1, api.Env{}, api.ErrBig)
		checkError(t, both(one(), c), 1, api.Env{}, api.ErrBig)
		checkError(t, both(c, one()), 1, api.Env{}, api.ErrBig)
	}
}

func TestIf(t *testing.T) {
	a, b := one(), pay(con("2"))
	v := fixed("spot", 2, "1", "0")
	checkFlows(t, branch(yes(), a, b), 2, v, flow(2, "1"))
	checkFlows(t, branch(no(), a, b), 2, v, flow(2, "2"))
	checkFlows(t, branch(is("spot"), a, b), 2, v, flow(2, "1"))
	checkFlows(t, branch(is("spot"), a, b), 3, v, flow(3, "2"))
	checkFlows(t, at(3, branch(is("spot"), a, b)), 2, v, flow(3, "2"))
	checkFlows(t, branch(is("spot"), at(3, a), at(3, b)), 2, v, flow(3, "1"))
	checkError(t, branch(is("spot"), a, b), 4, v, api.ErrFix)
	// Only one of the contracts is evaluated.
	checkFlows(t, branch(yes(), a, pay(missing())), 2, v, flow(2, "1"))
	checkFlows(t, branch(no(), pay(missing()), b), 2, v, flow(2, "2"))
	checkError(t, branch(yes(), pay(missing()), b), 2, v, api.ErrFix)
	checkError(t, branch(no(), a, pay(huge())), 2, v, api.ErrBig)
	checkError(t, branch(tooHuge(), pay(missing()), pay(missing())), 2, v, api.ErrBig)
	checkError(t, branch(unknown(), pay(huge()), pay(huge())), 2, v, api.ErrFix)
}

func TestAt(t *testing.T) {
	v := fixed("spot", 0, "1", "2", "3", "4", "5", "6", "7", "8")
	for date := range 8 {
		c := at(date, pay(now("spot")))
		for day := range 8 {
			for end := range 9 {
				var want []api.Flow
				if day <= date && date < end {
					want = append(want, flow(date, v.Fixings[date].Value))
				}
				checkBefore(t, c, day, end, v, want, api.OK)
			}
		}
	}
	// Nothing is evaluated after the date, and at or after the end.
	checkFlows(t, at(4, pay(missing())), 5, v)
	checkError(t, at(5, pay(missing())), 5, v, api.ErrFix)
	checkBefore(t, at(5, pay(missing())), 1, 5, v, nil, api.OK)
	checkBefore(t, at(5, pay(missing())), 1, 4, v, nil, api.OK)
	checkBefore(t, at(5, pay(missing())), 1, 6, v, nil, api.ErrFix)
	checkBefore(t, at(5, at(4, pay(missing()))), 1, 9, v, nil, api.OK)
	checkBefore(t, at(4, at(5, pay(now("spot")))), 1, 9, v, []api.Flow{flow(5, "6")}, api.OK)
	checkBefore(t, at(api.MaxDate, one()), 0, api.MaxDate+1, v, []api.Flow{flow(api.MaxDate, "1")}, api.OK)
	checkBefore(t, at(api.MaxDate, one()), 0, api.MaxDate, v, nil, api.OK)
	checkBefore(t, at(0, one()), 0, 1, v, []api.Flow{flow(0, "1")}, api.OK)
}

// TestDayNotBeforeEnd has no flows and no errors of evaluation, whatever the contract is.
func TestDayNotBeforeEnd(t *testing.T) {
	l := []api.Contract{one(), pay(missing()), pay(huge()), scale(missing(), one()), branch(unknown(), one(), one()), at(9, pay(missing())), until(unknown(), []int{0, 5, 9}, one()), when(unknown(), []int{0, 5, 9}, one()), call("Bob", "more", []int{0, 5, 9}, pay(missing())), pick("Bob", "more", pay(missing()), pay(missing())), both(pay(missing()), pay(huge()))}
	for _, c := range l {
		for _, k := range [][2]int{{0, 0}, {5, 5}, {5, 4}, {5, 0}, {api.MaxDate, api.MaxDate}, {api.MaxDate, 0}} {
			checkBefore(t, c, k[0], k[1], chose("Bob", "more", 0, "yyyyyy"), nil, api.OK)
		}
	}
}

func TestPick(t *testing.T) {
	c := pick("Bob", "more", one(), pay(con("2")))
	for choices, want := range map[string]api.Rat{
		"": "2", "  y": "1", "  n": "2", " y": "2", " n": "2", "   y": "2", "yy yy": "2", "yynyy": "2", "nnynn": "1", "yyyyy": "1", "nnnnn": "2",
	} {
		v := chose("Bob", "more", 3, choices)
		checkFlows(t, c, 5, v, flow(5, want))
		checkFlows(t, at(5, c), 3, v, flow(5, want))
		checkFlows(t, pick("Bob", "more", at(7, one()), at(7, pay(con("2")))), 5, v, flow(7, want))
		// Choices of another party or by another name do not count.
		checkFlows(t, pick("Ann", "more", one(), pay(con("2"))), 5, v, flow(5, "2"))
		checkFlows(t, pick("Bob", "mor", one(), pay(con("2"))), 5, v, flow(5, "2"))
	}
	v := chose("Bob", "more", 5, "yn")
	checkFlows(t, pick("Bob", "more", one(), pay(missing())), 5, v, flow(5, "1"))
	checkFlows(t, pick("Bob", "more", pay(missing()), one()), 6, v, flow(6, "1"))
	checkFlows(t, pick("Bob", "more", pay(missing()), one()), 7, v, flow(7, "1"))
	checkError(t, pick("Bob", "more", pay(missing()), one()), 5, v, api.ErrFix)
	checkError(t, pick("Bob", "more", one(), pay(huge())), 6, v, api.ErrBig)
}

// TestCall has a call on the days 3, 5 and 8 with all choices on the days 2 to 9.
func TestCall(t *testing.T) {
	dates := []int{3, 5, 8}
	c := call("Bob", "more", dates, pay(now("spot")))
	known := fixed("spot", 0, "1", "2", "3", "4", "5", "6", "7", "8", "9", "10")
	for choices := range 256 {
		v := known
		for i := range 8 {
			switch {
			case choices&(1<<i) != 0:
				v.Choices = append(v.Choices, api.Choice{Party: "Bob", Name: "more", Date: 2 + i, First: true})
			case i%2 == 0: // a choice of not First is the same as none
				v.Choices = append(v.Choices, api.Choice{Party: "Bob", Name: "more", Date: 2 + i})
			}
		}
		for day := range 10 {
			for _, end := range []int{0, 3, 4, 5, 6, 8, 9, api.MaxDate + 1} {
				var want []api.Flow
				for _, date := range dates {
					if len(want) == 0 && date >= day && date < end && choices&(1<<(date-2)) != 0 {
						want = append(want, flow(date, known.Fixings[date].Value))
					}
				}
				checkBefore(t, c, day, end, v, want, api.OK)
			}
		}
		checkFlows(t, call("Ann", "more", dates, one()), 0, v)
		checkFlows(t, call("Bob", "mores", dates, one()), 0, v)
	}
}

// TestCallEvaluates has errors of the contract only if it is called, and only by the first call.
func TestCallEvaluates(t *testing.T) {
	dates := []int{3, 5}
	v := chose("Bob", "more", 1, "y   n")
	checkFlows(t, call("Bob", "more", dates, pay(missing())), 1, v)
	v = chose("Bob", "more", 1, "  n y")
	checkError(t, call("Bob", "more", dates, pay(missing())), 1, v, api.ErrFix)
	checkBefore(t, call("Bob", "more", dates, pay(missing())), 1, 5, v, nil, api.OK)
	v = chose("Bob", "more", 1, "  y y")
	v.Fixings = fixed("spot", 5, "1").Fixings
	checkError(t, call("Bob", "more", dates, pay(now("spot"))), 3, v, api.ErrFix)
	checkFlows(t, call("Bob", "more", dates, pay(now("spot"))), 4, v, flow(5, "1"))
	checkFlows(t, call("Bob", "more", []int{0}, one()), 0, chose("Bob", "more", 0, "y"), flow(0, "1"))
	checkFlows(t, call("Bob", "more", []int{api.MaxDate}, one()), 0, chose("Bob", "more", api.MaxDate, "y"), flow(api.MaxDate, "1"))
	checkFlows(t, call("Bob", "more", dates, call("Bob", "more", dates, one())), 0, v, flow(3, "1"))
	checkFlows(t, call("Bob", "more", dates, at(4, call("Bob", "more", dates, one()))), 0, v, flow(5, "1"))
}

// daily pays the number of the day on each of the days 0 to 9.
func daily() api.Contract {
	c := zero()
	for day := 9; day >= 0; day-- {
		c = both(at(day, pay(con([]api.Rat{"10", "1", "2", "3", "4", "5", "6", "7", "8", "9"}[day]))), c)
	}
	return c
}

// TestUntilAndWhen has conditions on the days 3, 5 and 8 that are true on any of the days 2 to 9.
func TestUntilAndWhen(t *testing.T) {
	dates := []int{3, 5, 8}
	amount := []api.Rat{"10", "1", "2", "3", "4", "5", "6", "7", "8", "9"}
	for trues := range 256 {
		v := fixed("gate", 0, "0", "0", "0", "0", "0", "0", "0", "0", "0", "0")
		for i := range 8 {
			if trues&(1<<i) != 0 {
				v.Fixings[2+i].Value = "1"
			}
		}
		for day := range 10 {
			for _, end := range []int{0, 3, 4, 5, 6, 8, 9, api.MaxDate + 1} {
				first := -1
				for _, date := range dates {
					if first < 0 && date >= day && date < end && trues&(1<<(date-2)) != 0 {
						first = date
					}
				}
				var before, after []api.Flow
				for date := range 10 {
					if date >= day && date < end && (first < 0 || date < first) {
						before = append(before, flow(date, amount[date]))
					}
					if date >= day && date < end && first >= 0 && date >= first {
						after = append(after, flow(date, amount[date]))
					}
				}
				checkBefore(t, until(is("gate"), dates, daily()), day, end, v, before, api.OK)
				checkBefore(t, when(is("gate"), dates, daily()), day, end, v, after, api.OK)
			}
		}
	}
}

// TestConditionsAreEvaluated has fixings that are missing on a day on which a condition is needed or not.
func TestConditionsAreEvaluated(t *testing.T) {
	dates := []int{3, 5, 8}
	u, w := until(is("gate"), dates, at(4, one())), when(is("gate"), dates, at(8, one()))
	for _, k := range []struct {
		day, end int
		values   []api.Rat // from day 2 on
		until    []api.Flow
		when     []api.Flow
		e        api.Errno
	}{
		{0, 20, []api.Rat{"", "0", "", "0", "", "", "0"}, []api.Flow{flow(4, "1")}, nil, api.OK},
		{0, 20, []api.Rat{"1", "0", "1", "0", "1", "1", "0"}, []api.Flow{flow(4, "1")}, nil, api.OK},
		{0, 20, []api.Rat{"1", "0", "1", "", "1", "1", "0"}, nil, nil, api.ErrFix},
		{0, 20, []api.Rat{"", "", "", "1", "", "", "1"}, nil, nil, api.ErrFix},
		{0, 20, []api.Rat{"", "0", "", "0"}, nil, nil, api.ErrFix},
		{0, 20, []api.Rat{"", "1"}, nil, []api.Flow{flow(8, "1")}, api.OK},
		{0, 20, []api.Rat{"", "0", "", "1"}, []api.Flow{flow(4, "1")}, []api.Flow{flow(8, "1")}, api.OK},
		{4, 20, []api.Rat{"", "", "", "1"}, []api.Flow{flow(4, "1")}, []api.Flow{flow(8, "1")}, api.OK},
		{3, 20, []api.Rat{"", "", "", "1"}, nil, nil, api.ErrFix},
		{5, 20, []api.Rat{"", "", "", "1"}, nil, []api.Flow{flow(8, "1")}, api.OK},
		{6, 20, []api.Rat{"", "1", "", "1", "", "", "0"}, nil, nil, api.OK},
		{6, 20, []api.Rat{"", "1", "", "1", "", "", "1"}, nil, []api.Flow{flow(8, "1")}, api.OK},
		{9, 20, nil, nil, nil, api.OK},
		{0, 9, []api.Rat{"", "0", "", "0", "", "", "1"}, []api.Flow{flow(4, "1")}, []api.Flow{flow(8, "1")}, api.OK},
		{0, 8, []api.Rat{"", "0", "", "0"}, []api.Flow{flow(4, "1")}, nil, api.OK},
		{0, 8, []api.Rat{"", "0", "", "1"}, []api.Flow{flow(4, "1")}, nil, api.OK},
		{0, 5, []api.Rat{"", "0"}, []api.Flow{flow(4, "1")}, nil, api.OK},
		{0, 4, []api.Rat{"", "0"}, nil, nil, api.OK},
		{0, 4, nil, nil, nil, api.ErrFix},
		{0, 3, nil, nil, nil, api.OK},
	} {
		v := fixed("gate", 2, k.values...)
		checkBefore(t, u, k.day, k.end, v, k.until, k.e)
		checkBefore(t, w, k.day, k.end, v, k.when, k.e)
	}
}

// TestConditionComesFirst has errors of the condition before those of the contract, and no errors of flows that are left out.
func TestConditionComesFirst(t *testing.T) {
	v := fixed("gate", 2, "0", "1")
	checkError(t, until(unknown(), []int{2}, pay(huge())), 2, v, api.ErrFix)
	checkError(t, until(tooHuge(), []int{2}, pay(missing())), 2, v, api.ErrBig)
	checkError(t, when(unknown(), []int{2}, pay(huge())), 2, v, api.ErrFix)
	checkError(t, when(tooHuge(), []int{2}, pay(missing())), 2, v, api.ErrBig)
	checkFlows(t, until(is("gate"), []int{2, 3}, both(one(), at(3, pay(missing())))), 2, v, flow(2, "1"))
	checkError(t, until(is("gate"), []int{2, 3}, both(one(), at(2, pay(missing())))), 2, v, api.ErrFix)
	checkFlows(t, until(is("gate"), []int{3}, pay(missing())), 3, v)
	checkFlows(t, until(yes(), []int{2}, pay(missing())), 2, v)
	checkFlows(t, when(no(), []int{2}, pay(missing())), 2, v)
	checkFlows(t, when(yes(), []int{2}, pay(missing())), 3, v)
	checkError(t, when(yes(), []int{2}, pay(missing())), 2, v, api.ErrFix)
	checkError(t, until(yes(), []int{2}, pay(missing())), 3, v, api.ErrFix)
	checkError(t, until(no(), []int{2}, pay(missing())), 2, v, api.ErrFix)
}

func TestUntilInsideUntil(t *testing.T) {
	v := api.Env{Fixings: slices.Concat(fixed("a", 0, "0", "0", "0", "0", "1", "1", "", "").Fixings, fixed("b", 0, "0", "0", "1", "1", "", "", "1", "0").Fixings)}
	days := []int{0, 1, 2, 3, 4, 5}
	two := []api.Flow{flow(0, "10"), flow(1, "1")}
	// The end of the outer one is that of the inner one's dates, too, and the other way round.
	checkFlows(t, until(is("a"), days, until(is("b"), days, daily())), 0, v, two...)
	checkFlows(t, until(is("b"), days, until(is("a"), days, daily())), 0, v, two...)
	checkFlows(t, until(is("b"), []int{2}, until(is("b"), []int{4}, daily())), 0, v, two...)
	checkFlows(t, until(is("a"), []int{4}, until(is("b"), []int{4, 5}, daily())), 0, v, flow(0, "10"), flow(1, "1"), flow(2, "2"), flow(3, "3"))
	checkError(t, until(is("a"), []int{5}, until(is("b"), []int{4, 5}, daily())), 0, v, api.ErrFix)
	checkFlows(t, until(is("a"), days, when(is("b"), []int{6}, daily())), 6, v, flow(6, "6"), flow(7, "7"), flow(8, "8"), flow(9, "9"))
	checkFlows(t, until(is("a"), []int{4, 5}, when(is("b"), []int{1, 3, 5}, daily())), 0, v, flow(3, "3"))
	checkFlows(t, when(is("b"), []int{1, 3, 5}, until(is("a"), []int{1, 2, 4, 5}, daily())), 0, v, flow(3, "3"))
	checkFlows(t, until(is("a"), []int{4}, call("Bob", "more", []int{4}, one())), 0, chosenToo(v, 4))
	checkFlows(t, until(is("a"), []int{5}, call("Bob", "more", []int{4}, one())), 0, chosenToo(v, 4), flow(4, "1"))
	checkFlows(t, scale(con("2"), until(is("a"), []int{4}, both(at(3, one()), at(4, one())))), 0, v, flow(3, "2"))
}

// chosenToo adds a choice of Bob for more.
func chosenToo(v api.Env, date int) api.Env {
	v.Choices = chose("Bob", "more", date, "y").Choices
	return v
}

// TestOrder has flows of some days in any order; those of a day stay in theirs.
func TestOrder(t *testing.T) {
	r := rand.New(rand.NewSource(1))
	for n := range 80 {
		var want []api.Flow
		var l []api.Contract
		for range n {
			f := flow(r.Intn(1+n/3), amounts[r.Intn(len(amounts))])
			if r.Intn(2) == 0 {
				f.From, f.To = f.To, f.From
			}
			want = append(want, f)
			l = append(l, at(f.Date, paid(f.From, f.To, f.Ccy, con(f.Amount))))
		}
		checkFlows(t, all(l), 0, api.Env{}, byDay(want)...)
	}
	checkFlows(t, both(at(3, one()), both(at(2, pay(con("2"))), both(at(3, pay(con("3"))), pay(con("4"))))), 1, api.Env{}, flow(1, "4"), flow(2, "2"), flow(3, "1"), flow(3, "3"))
}

// exampleOf returns a contract of a kind that has the same flows on day 5 as c has, which it holds in each place where it may be.
func exampleOf(kind uint8, c api.Contract) []api.Contract {
	switch kind {
	case api.ConBoth:
		return []api.Contract{both(c, zero()), both(zero(), c)}
	case api.ConScale:
		return []api.Contract{scale(con("1"), c), scale(now("gate"), c)}
	case api.ConIf:
		return []api.Contract{branch(yes(), c, pay(missing())), branch(no(), pay(missing()), c), branch(is("gate"), c, zero())}
	case api.ConAt:
		return []api.Contract{at(5, c)}
	case api.ConPick:
		return []api.Contract{pick("Bob", "more", c, pay(missing())), pick("Ann", "more", pay(missing()), c)}
	case api.ConCall:
		return []api.Contract{call("Bob", "more", []int{4, 5, 6}, c)}
	case api.ConUntil:
		return []api.Contract{until(is("gate"), []int{4, 7}, c), until(is("gate"), []int{6}, c)}
	case api.ConWhen:
		return []api.Contract{when(is("gate"), []int{4, 5, 6}, c)}
	}
	return nil
}

// TestEachKindInEachOtherKind has a payment inside each kind inside each kind inside each kind.
func TestEachKindInEachOtherKind(t *testing.T) {
	v := chosenToo(fixed("gate", 4, "0", "1", "0", "0"), 5)
	l := []api.Contract{pay(fix("gate", 5))}
	for range 3 {
		var outer []api.Contract
		for _, c := range l {
			for kind := range uint8(11) {
				outer = append(outer, exampleOf(kind, c)...)
			}
		}
		for i, c := range outer {
			if i%7 == 0 || len(outer) < 1000 {
				checkFlows(t, c, 5, v, flow(5, "1"))
				checkBefore(t, c, 5, 5, v, nil, api.OK)
				checkBefore(t, c, 5, 6, v, []api.Flow{flow(5, "1")}, api.OK)
			}
		}
		l = outer
	}
}

// TestSamples compares random contracts with the model.
func TestSamples(t *testing.T) {
	seen := map[api.Errno]int{}
	many, empty := 0, 0
	samples(2, func(r *rand.Rand, c api.Contract, day int, v api.Env) {
		if e := contract.Check(c); e != api.OK {
			return
		}
		for _, end := range []int{api.MaxDate + 1, r.Intn(14), r.Intn(14)} {
			l, e := (model{v}).flows(c, day, end)
			l = byDay(l)
			seen[e]++
			if len(l) > 3 {
				many++
			} else if len(l) == 0 {
				empty++
			}
			checkBefore(t, c, day, end, v, l, e)
		}
	})
	if seen[api.OK] < 3000 || seen[api.ErrFix] < 300 || seen[api.ErrBig] < 300 || many < 300 || empty < 300 {
		t.Errorf("too few of a kind: %v %d %d", seen, many, empty)
	}
}

// TestLargeContracts has as many nodes, conditions and fixings as there may be.
func TestLargeContracts(t *testing.T) {
	var v api.Env
	for i := range api.MaxTable {
		v.Fixings = append(v.Fixings, api.Fixing{Name: "spot", Date: i, Value: "1/2"})
	}
	days := make([]int, api.MaxDates)
	for i := range days {
		days[i] = 10 * i
	}
	x := expr(api.ExprLess, now("spot"), con("0"))
	c := zero()
	var want []api.Flow
	for range 40 {
		c = both(c, until(x, days, when(expr(api.ExprNot, x), days[99:], pay(now("spot")))))
		want = append(want, flow(990, "1/2"))
	}
	if contract.Size(c) > api.MaxNodes {
		t.Fatal(contract.Size(c))
	}
	checkFlows(t, c, 0, v, want...)
	c = all(slices.Repeat([]api.Contract{one()}, 167))
	if n := contract.Size(c); n != api.MaxNodes {
		t.Fatal(n)
	}
	checkFlows(t, c, 7, v, slices.Repeat([]api.Flow{flow(7, "1")}, 167)...)
}
