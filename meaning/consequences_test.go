package meaning_test

import (
	"fmt"
	"math/big"
	"math/rand"
	"slices"
	"testing"

	"novation/api"
	"novation/meaning"
	"novation/observable"
	"novation/rational"
)

// P10.3

// payments returns how many payments a contract has.
func payments(c api.Contract) int {
	n := 0
	if c.Kind == api.ConPay {
		n = 1
	}
	for _, part := range c.Sub {
		n += payments(part)
	}
	return n
}

// earlier returns the flows before a day.
func earlier(l []api.Flow, end int) []api.Flow {
	return slices.DeleteFunc(slices.Clone(l), func(f api.Flow) bool { return f.Date >= end })
}

func TestFlowsBeforeADay(t *testing.T) {
	compared := 0
	samples(4, func(r *rand.Rand, c api.Contract, day int, v api.Env) {
		l, e := meaning.Flows(c, day, v)
		if e != api.OK {
			return
		}
		for end := range 14 {
			if m, e := meaning.Before(c, day, end, v); e != api.OK || !slices.Equal(m, earlier(l, end)) {
				t.Errorf("Before(%s, %d, %d) = %s, %d, but Flows = %s", short(c), day, end, short(m), e, short(l))
			}
		}
		compared += len(l)
	})
	if compared < 3000 {
		t.Errorf("only %d flows", compared)
	}
}

// TestListsAreValid has lists with at most as many elements as there are payments.
func TestListsAreValid(t *testing.T) {
	full := 0
	samples(5, func(r *rand.Rand, c api.Contract, day int, v api.Env) {
		for _, end := range []int{api.MaxDate + 1, r.Intn(14)} {
			l, e := meaning.Before(c, day, end, v)
			if e != api.OK && len(l) > 0 || meaning.CheckFlows(l) != api.OK || len(l) > payments(c) {
				t.Errorf("Before(%s, %d, %d, %s) = %s, %d", short(c), day, end, short(v), short(l), e)
			}
			if len(l) == payments(c) {
				full++
			}
		}
	})
	if full < 100 {
		t.Errorf("only %d with all payments", full)
	}
}

// TestBothIsBoth has the flows of two contracts together, on each day those of the first one first.
func TestBothIsBoth(t *testing.T) {
	samples(6, func(r *rand.Rand, a api.Contract, day int, v api.Env) {
		b := worlds[r.Intn(3)].contract(r, 4)
		l, e := meaning.Flows(a, day, v)
		m, f := meaning.Flows(b, day, v)
		want := byDay(slices.Concat(l, m))
		if e == api.OK {
			e = f
		}
		if e != api.OK {
			want = nil
		}
		if k, f := meaning.Flows(both(a, b), day, v); f != e || !slices.Equal(k, want) {
			t.Errorf("%s and %s on %d: %s, %d, not %s, %d", short(a), short(b), day, short(k), f, short(want), e)
		}
	})
}

// TestScaleMultiplies has factors of all signs.
func TestScaleMultiplies(t *testing.T) {
	seen := map[api.Errno]int{}
	samples(7, func(r *rand.Rand, c api.Contract, day int, v api.Env) {
		factor := append(slices.Clone(worlds[0].rats), "-5/7", tens(350))[r.Intn(9)]
		l, e := meaning.Flows(c, day, v)
		var want []api.Flow
		for _, f := range l {
			a, g := rational.Mul(f.Amount, factor)
			if g != api.OK && e == api.OK {
				e = g
			}
			switch {
			case a == "0":
				continue
			case factor[0] == '-':
				f.From, f.To, a = f.To, f.From, negated(a)
			}
			f.Amount = a
			want = append(want, f)
		}
		if e != api.OK {
			want = nil
		}
		seen[e]++
		k, f := meaning.Flows(scale(con(factor), c), day, v)
		if f != e || !slices.Equal(k, want) {
			t.Errorf("%s of %s on %d: %s, %d, not %s, %d", factor, short(c), day, short(k), f, short(want), e)
		}
	})
	if seen[api.OK] < 1000 || seen[api.ErrBig] < 200 || seen[api.ErrFix] < 100 {
		t.Errorf("too few of a kind: %v", seen)
	}
}

// TestNetsOfMeanings has nets of all parties that add up to 0.
func TestNetsOfMeanings(t *testing.T) {
	samples(8, func(r *rand.Rand, c api.Contract, day int, v api.Env) {
		l, _ := meaning.Flows(c, day, v)
		for _, ccy := range currencies {
			sum, e := new(big.Rat), api.OK
			for _, party := range parties {
				net, f := meaning.Net(l, party, ccy)
				if a, ok := new(big.Rat).SetString(string(net)); ok {
					sum.Add(sum, a)
				}
				if f != api.OK {
					e = f
				}
			}
			if e == api.OK && sum.Sign() != 0 || e != api.OK && e != api.ErrBig {
				t.Errorf("%s: the nets in %s add up to %s, %d", short(l), ccy, sum, e)
			}
		}
	})
}

// unused returns a contract with other parts where nothing is evaluated.
func unused(r *rand.Rand, c api.Contract, day int, v api.Env) api.Contract {
	parts := slices.Clone(c.Sub)
	other := func() api.Contract {
		return []api.Contract{pay(missing()), pay(huge()), zero(), one(), scale(missing(), one())}[r.Intn(5)]
	}
	first := false
	switch c.Kind {
	case api.ConIf:
		is, e := observable.Holds(c.Expr, day, v)
		if e != api.OK {
			return c
		}
		first = is
	case api.ConPick:
		first = observable.Chosen(v, c.From, c.Name, day)
	case api.ConAt:
		if day > c.Date {
			parts[0] = other()
		}
		c.Sub = parts
		return c
	case api.ConBoth:
		parts[0], parts[1] = unused(r, parts[0], day, v), unused(r, parts[1], day, v)
		c.Sub = parts
		return c
	default:
		return c
	}
	if first {
		parts[0], parts[1] = unused(r, parts[0], day, v), other()
	} else {
		parts[0], parts[1] = other(), unused(r, parts[1], day, v)
	}
	c.Sub = parts
	return c
}

// TestOnlyWhatIsEvaluatedMatters replaces what is not evaluated, and adds what is known and not asked for.
func TestOnlyWhatIsEvaluatedMatters(t *testing.T) {
	changed := 0
	samples(9, func(r *rand.Rand, c api.Contract, day int, v api.Env) {
		l, e := meaning.Flows(c, day, v)
		d := unused(r, c, day, v)
		if wholeText(c) != wholeText(d) {
			changed++
		}
		w, _ := observable.Put(v, api.Fixing{Name: "zinc", Date: 3, Value: "1"})
		w, _ = observable.Put(w, api.Fixing{Name: "a", Date: 3, Value: "1"})
		w, _ = observable.Choose(w, api.Choice{Party: "Dan", Name: "more", Date: 3, First: true})
		w, _ = observable.Choose(w, api.Choice{Party: "Ann", Name: "less", Date: 3, First: true})
		if m, f := meaning.Flows(d, day, w); f != e || !slices.Equal(l, m) {
			t.Errorf("%s on %d: %s, %d, but %s: %s, %d", short(c), day, short(l), e, short(d), short(m), f)
		}
	})
	if changed < 500 {
		t.Errorf("only %d changed", changed)
	}
}

func wholeText(c api.Contract) string {
	return string(wholeContract(nil, c))
}

// P1 and the rules

func TestArgumentsAreNotChanged(t *testing.T) {
	samples(10, func(r *rand.Rand, c api.Contract, day int, v api.Env) {
		c, v = copyOf(c), copyOfEnv(v)
		before := whole(c, v)
		l, _ := meaning.Flows(c, day, v)
		meaning.Before(c, day, day+3, v)
		meaning.Before(c, day, -1, v)
		if whole(c, v) != before {
			t.Errorf("%s, %s was changed", short(c), short(v))
		}
		l = copyOfFlows(l)
		flows := fmt.Sprint(l[:cap(l)])
		meaning.CheckFlows(l)
		meaning.Net(l, "Ann", "USD")
		if fmt.Sprint(l[:cap(l)]) != flows {
			t.Errorf("%s was changed", short(l))
		}
	})
}

// TestResultsShareNoMemory changes results, also behind their ends, and asks again.
func TestResultsShareNoMemory(t *testing.T) {
	samples(11, func(r *rand.Rand, c api.Contract, day int, v api.Env) {
		c, v = copyOf(c), copyOfEnv(v)
		before := whole(c, v)
		first, _ := meaning.Flows(c, day, v)
		second, _ := meaning.Flows(c, day, v)
		third, _ := meaning.Before(c, day, api.MaxDate+1, v)
		want := slices.Clone(second)
		clear(first[:cap(first)])
		fourth, _ := meaning.Flows(c, day, v)
		if whole(c, v) != before || !slices.Equal(second, want) || !slices.Equal(third, want) || !slices.Equal(fourth, want) {
			t.Errorf("%s on %d: %s, then %s, %s and %s", short(c), day, short(want), short(second), short(third), short(fourth))
		}
	})
}

// TestRepeatedCallsAgree has calls with other arguments in between.
func TestRepeatedCallsAgree(t *testing.T) {
	type question struct {
		c   api.Contract
		day int
		v   api.Env
	}
	ask := func(q question) string {
		l, e := meaning.Flows(q.c, q.day, q.v)
		m, f := meaning.Before(q.c, q.day, q.day+4, q.v)
		net, g := meaning.Net(l, "Ann", "USD")
		return fmt.Sprint(l, e, m, f, net, g, meaning.CheckFlows(m))
	}
	var l []question
	var first []string
	samples(12, func(r *rand.Rand, c api.Contract, day int, v api.Env) {
		l = append(l, question{c, day, v})
		first = append(first, ask(l[len(l)-1]))
	})
	for i, q := range slices.Backward(l) {
		if again := ask(q); again != first[i] {
			t.Errorf("%s on %d: first %.300s, then %.300s", short(q.c), q.day, first[i], again)
		}
	}
}
