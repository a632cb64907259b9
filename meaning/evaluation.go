package meaning

import (
	"novation/api"
	"novation/observable"
	"novation/rational"
)

// An evaluation finds the flows of valid contracts by what is known.
type evaluation struct {
	known api.Env
}

// A failure is the error by which an evaluation ends; it is thrown, as it comes from any depth.
type failure api.Errno

// sure returns a value that came without an error, and ends the evaluation otherwise.
func sure[T any](value T, e api.Errno) T {
	if e != api.OK {
		panic(failure(e))
	}
	return value
}

// flows returns the flows of a contract that is acquired on a day, before another day, in the order in which they are found.
func (v evaluation) flows(c api.Contract, day, end int) []api.Flow {
	if day >= end {
		return nil
	}
	switch c.Kind {
	case api.ConPay:
		return payment(day, c.From, c.To, c.Name, v.value(c.Expr, day))
	case api.ConBoth:
		first := v.flows(c.Sub[0], day, end)
		return append(first, v.flows(c.Sub[1], day, end)...)
	case api.ConScale:
		return v.scaled(c, day, end)
	case api.ConIf:
		return v.flows(c.Sub[side(v.holds(c.Expr, day))], day, end)
	case api.ConAt:
		return v.on(c, day, end)
	case api.ConPick:
		return v.flows(c.Sub[side(v.chosen(c, day))], day, end)
	case api.ConCall:
		return v.called(c, day, end)
	case api.ConUntil:
		return v.flows(c.Sub[0], day, v.firstTrue(c, day, end))
	case api.ConWhen:
		return v.flows(c.Sub[0], v.firstTrue(c, day, end), end)
	}
	return nil
}

// side returns which part of a contract a decision is for.
func side(first bool) int {
	if first {
		return 0
	}
	return 1
}

func (v evaluation) scaled(c api.Contract, day, end int) []api.Flow {
	factor := v.value(c.Expr, day)
	var l []api.Flow
	for _, f := range v.flows(c.Sub[0], day, end) {
		amount := sure(rational.Mul(f.Amount, factor))
		l = append(l, payment(f.Date, f.From, f.To, f.Ccy, amount)...)
	}
	return l
}

func (v evaluation) on(c api.Contract, day, end int) []api.Flow {
	if day > c.Date {
		return nil
	}
	return v.flows(c.Sub[0], c.Date, end)
}

func (v evaluation) called(c api.Contract, day, end int) []api.Flow {
	taken := firstDay(c.Dates, day, end, func(date int) bool { return v.chosen(c, date) })
	return v.flows(c.Sub[0], taken, end)
}

// firstTrue returns the first date, from a day on and before end, on which the condition of a contract is true, or end if there is none.
func (v evaluation) firstTrue(c api.Contract, day, end int) int {
	return firstDay(c.Dates, day, end, func(date int) bool { return v.holds(c.Expr, date) })
}

// firstDay returns the first date, from a day on and before end, that is what is looked for, or end if there is none.
func firstDay(dates []int, day, end int, is func(date int) bool) int {
	for _, date := range dates {
		if date >= day && date < end && is(date) {
			return date
		}
	}
	return end
}

func (v evaluation) value(x api.Expr, day int) api.Rat {
	return sure(observable.Value(x, day, v.needed(x, day)))
}

func (v evaluation) holds(x api.Expr, day int) bool {
	return sure(observable.Holds(x, day, v.needed(x, day)))
}

func (v evaluation) chosen(c api.Contract, day int) bool {
	return observable.Chosen(v.known, c.From, c.Name, day)
}
