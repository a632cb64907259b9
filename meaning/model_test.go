package meaning_test

import (
	"slices"
	"strings"
	"testing"

	"novation/api"
	"novation/meaning"
	"novation/observable"
	"novation/rational"
)

// A model finds flows line by line of the document's table; each line returns at its first error.
type model struct {
	known api.Env
}

func (m model) flows(c api.Contract, d, end int) ([]api.Flow, api.Errno) {
	if d >= end {
		return nil, api.OK
	}
	switch c.Kind {
	case api.ConPay:
		a, e := observable.Value(c.Expr, d, m.known)
		return paymentOf(a, c.From, c.To, c.Name, d), e
	case api.ConBoth:
		l, e := m.flows(c.Sub[0], d, end)
		if e != api.OK {
			return nil, e
		}
		k, e := m.flows(c.Sub[1], d, end)
		if e != api.OK {
			return nil, e
		}
		return slices.Concat(l, k), api.OK
	case api.ConScale:
		return m.scaled(c, d, end)
	case api.ConIf:
		is, e := observable.Holds(c.Expr, d, m.known)
		if e != api.OK {
			return nil, e
		}
		if is {
			return m.flows(c.Sub[0], d, end)
		}
		return m.flows(c.Sub[1], d, end)
	case api.ConAt:
		if d <= c.Date {
			return m.flows(c.Sub[0], c.Date, end)
		}
	case api.ConPick:
		if observable.Chosen(m.known, c.From, c.Name, d) {
			return m.flows(c.Sub[0], d, end)
		}
		return m.flows(c.Sub[1], d, end)
	case api.ConCall:
		for _, date := range between(c.Dates, d, end) {
			if observable.Chosen(m.known, c.From, c.Name, date) {
				return m.flows(c.Sub[0], date, end)
			}
		}
	case api.ConUntil, api.ConWhen:
		return m.conditional(c, d, end)
	}
	return nil, api.OK
}

func (m model) scaled(c api.Contract, d, end int) ([]api.Flow, api.Errno) {
	factor, e := observable.Value(c.Expr, d, m.known)
	if e != api.OK {
		return nil, e
	}
	l, e := m.flows(c.Sub[0], d, end)
	if e != api.OK {
		return nil, e
	}
	var k []api.Flow
	for _, f := range l {
		a, e := rational.Mul(f.Amount, factor)
		if e != api.OK {
			return nil, e
		}
		k = append(k, paymentOf(a, f.From, f.To, f.Ccy, f.Date)...)
	}
	return k, api.OK
}

func (m model) conditional(c api.Contract, d, end int) ([]api.Flow, api.Errno) {
	for _, date := range between(c.Dates, d, end) {
		is, e := observable.Holds(c.Expr, date, m.known)
		if e != api.OK {
			return nil, e
		}
		if is && c.Kind == api.ConUntil {
			return m.flows(c.Sub[0], d, date)
		}
		if is {
			return m.flows(c.Sub[0], date, end)
		}
	}
	if c.Kind == api.ConUntil {
		return m.flows(c.Sub[0], d, end)
	}
	return nil, api.OK
}

func between(dates []int, d, end int) []int {
	return slices.DeleteFunc(slices.Clone(dates), func(date int) bool { return date < d || date >= end })
}

func paymentOf(a api.Rat, from, to, ccy string, d int) []api.Flow {
	switch {
	case a == "" || a == "0":
		return nil
	case strings.HasPrefix(string(a), "-"):
		return []api.Flow{{Date: d, From: to, To: from, Ccy: ccy, Amount: a[1:]}}
	}
	return []api.Flow{{Date: d, From: from, To: to, Ccy: ccy, Amount: a}}
}

// byDay orders flows by day.
func byDay(l []api.Flow) []api.Flow {
	l = slices.Clone(l)
	slices.SortStableFunc(l, func(f, g api.Flow) int { return f.Date - g.Date })
	return l
}

// checkBefore checks the flows of a contract before a day against those wanted, and those of the model.
func checkBefore(t *testing.T, c api.Contract, day, end int, v api.Env, want []api.Flow, wantErr api.Errno) {
	t.Helper()
	l, e := meaning.Before(c, day, end, v)
	if e != wantErr || !slices.Equal(l, want) {
		t.Errorf("Before(%s, %d, %d, %s) = %s, %d, not %s, %d", short(c), day, end, short(v), short(l), e, short(want), wantErr)
	}
	if end == api.MaxDate+1 {
		if l, e := meaning.Flows(c, day, v); e != wantErr || !slices.Equal(l, want) {
			t.Errorf("Flows(%s, %d, %s) = %s, %d, not %s, %d", short(c), day, short(v), short(l), e, short(want), wantErr)
		}
	}
	if l, e := (model{v}).flows(c, day, end); e != wantErr || e == api.OK && !slices.Equal(byDay(l), want) {
		t.Errorf("the model of %s, %d, %d, %s is %s, %d, not %s, %d", short(c), day, end, short(v), short(byDay(l)), e, short(want), wantErr)
	}
}

// checkFlows checks the meaning of a contract.
func checkFlows(t *testing.T, c api.Contract, day int, v api.Env, want ...api.Flow) {
	t.Helper()
	checkBefore(t, c, day, api.MaxDate+1, v, want, api.OK)
}

// checkError checks that the meaning of a contract has an error.
func checkError(t *testing.T, c api.Contract, day int, v api.Env, want api.Errno) {
	t.Helper()
	checkBefore(t, c, day, api.MaxDate+1, v, nil, want)
}
