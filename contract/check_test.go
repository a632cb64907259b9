package contract_test

import (
	"math/bits"
	"strings"
	"testing"

	"novation/api"
	"novation/contract"
)

// P9.1

// checkError checks that Check, and all functions that return its error, return an error and nothing else, or none.
func checkError(t *testing.T, c api.Contract, want api.Errno) {
	t.Helper()
	if e := contract.Check(c); e != want {
		t.Errorf("Check(%s) = %d, not %d", short(c), e, want)
	}
	parties, e := contract.Parties(c)
	if e != want || e != api.OK && len(parties) > 0 {
		t.Errorf("Parties(%s) = %q, %d, not %d", short(c), parties, e, want)
	}
	currencies, e := contract.Currencies(c)
	if e != want || e != api.OK && len(currencies) > 0 {
		t.Errorf("Currencies(%s) = %q, %d, not %d", short(c), currencies, e, want)
	}
	horizon, e := contract.Horizon(c)
	if e != want || e != api.OK && horizon != 0 {
		t.Errorf("Horizon(%s) = %d, %d, not %d", short(c), horizon, e, want)
	}
}

// checkInside checks that a contract with an error is one in each place as well, and a part of it in each place of that.
func checkInside(t *testing.T, c api.Contract, want api.Errno) {
	t.Helper()
	for _, outer := range everywhere(c) {
		checkError(t, outer, want)
		for _, whole := range everywhere(outer)[1:] {
			checkError(t, whole, want)
		}
	}
}

func TestExamples(t *testing.T) {
	c := pay("Ann", "Bob", "USD", con("4"))
	if n, d := contract.Size(c), contract.Depth(c); n != 2 || d != 2 {
		t.Error(n, d)
	}
	c = both(c, zero())
	if n, d := contract.Size(c), contract.Depth(c); n != 4 || d != 3 {
		t.Error(n, d)
	}
	checkError(t, c, api.OK)
}

// withFields returns a contract of a kind that has the fields named by bits, an expression of a sort, and a number of contracts.
func withFields(kind uint8, set int, sort byte, below int) api.Contract {
	c := api.Contract{Kind: kind, Expr: exprOf(sort)}
	if set&1 != 0 {
		c.From = "p"
	}
	if set&2 != 0 {
		c.To = "q"
	}
	if set&4 != 0 {
		c.Name = "n"
	}
	if set&8 != 0 {
		c.Date = 5
	}
	if set&16 != 0 {
		c.Dates = []int{5}
	}
	for range below {
		c.Sub = append(c.Sub, pay("p", "q", "EUR", con("1")))
	}
	return c
}

// TestAllKindsWithAllParts has each kind from 0 to 255 with each set of fields, each sort of expression, and up to three contracts.
func TestAllKindsWithAllParts(t *testing.T) {
	good := 0
	for kind := range 256 {
		r, exists := table[uint8(kind)]
		for set := range 32 {
			for _, sort := range []byte{' ', 'n', 't'} {
				for below := range 4 {
					fields := (set&1 != 0) == r.from && (set&2 != 0) == r.to && (set&4 != 0) == r.name && (set&8 == 0 || r.date) && (set&16 != 0) == r.dates
					want := api.ErrBad
					if exists && fields && sort == r.sort && below == r.below {
						want = api.OK
						good++
					}
					checkError(t, withFields(uint8(kind), set, sort, below), want)
				}
			}
		}
	}
	if good != 11 { // ConAt is good with and without a Date
		t.Errorf("%d good ones", good)
	}
}

// TestOneDifference has an example of each kind with one field too many or too few, in each place of each kind.
func TestOneDifference(t *testing.T) {
	for kind := range table {
		r, example := exampleOf(kind)
		checkInside(t, example, api.OK)
		for set := range 32 {
			flags := 0
			for i, has := range []bool{r.from, r.to, r.name, r.date, r.dates} {
				if has {
					flags |= 1 << i
				}
			}
			if differ := set ^ flags; bits.OnesCount(uint(differ)) == 1 && differ&^set != 8 {
				checkInside(t, withFields(kind, set, r.sort, r.below), api.ErrBad)
			}
		}
		for _, other := range []int{r.below - 1, r.below + 1, r.below + 2} {
			if other >= 0 {
				c := example
				c.Sub = make([]api.Contract, other)
				for i := range c.Sub {
					c.Sub[i] = zero()
				}
				checkInside(t, c, api.ErrBad)
			}
		}
	}
	for _, kind := range []uint8{0, 11, 12, 255} {
		checkInside(t, of(kind), api.ErrBad)
		checkInside(t, of(kind, zero()), api.ErrBad)
		checkInside(t, of(kind, zero(), zero()), api.ErrBad)
	}
}

func TestExpressions(t *testing.T) {
	for kind := range table {
		r, c := exampleOf(kind)
		for _, x := range badExprs() {
			c.Expr = x
			checkInside(t, c, api.ErrBad)
		}
		for _, sort := range []byte{' ', 'n', 't'} {
			if c.Expr = exprOf(sort); sort != r.sort {
				checkInside(t, c, api.ErrBad)
			}
		}
	}
	for _, x := range []api.Expr{con("0"), con("-3/2"), fix("spot", 0), fix("spot", api.MaxDate), now("spot"), number(99), expr(api.ExprWhen, yes(), con("1"), con("2"))} {
		for _, c := range withExpr(x, 'n') {
			checkInside(t, c, api.OK)
		}
		for _, c := range withExpr(x, 't') {
			checkInside(t, c, api.ErrBad)
		}
	}
	for _, x := range []api.Expr{yes(), not(yes(), 9), expr(api.ExprAnd, yes(), yes()), expr(api.ExprOr, yes(), yes()), expr(api.ExprLess, now("a"), fix("b", 7))} {
		for _, c := range withExpr(x, 't') {
			checkInside(t, c, api.OK)
		}
		for _, c := range withExpr(x, 'n') {
			checkInside(t, c, api.ErrBad)
		}
	}
}

// TestFieldsThatMustBeZero has values in them that would be valid elsewhere, and others.
func TestFieldsThatMustBeZero(t *testing.T) {
	for kind := range table {
		r, example := exampleOf(kind)
		for _, s := range append(names[:len(names):len(names)], noNames[1:]...) {
			if c := example; !r.from {
				c.From = s
				checkError(t, c, api.ErrBad)
			}
			if c := example; !r.to {
				c.To = s
				checkError(t, c, api.ErrBad)
			}
			if c := example; !r.name {
				c.Name = s
				checkError(t, c, api.ErrBad)
			}
		}
		for _, day := range append(someDays[1:len(someDays):len(someDays)], noDays...) {
			if c := example; !r.date {
				c.Date = day
				checkError(t, c, api.ErrBad)
			}
		}
		for _, days := range [][]int{{0}, {1}, {api.MaxDate}, {-1}, {0, 0}, {1, 2, 3}, make([]int, 101)} {
			if c := example; !r.dates {
				c.Dates = days
				checkError(t, c, api.ErrBad)
			}
		}
	}
}

func TestNames(t *testing.T) {
	for kind := range table {
		r, example := exampleOf(kind)
		for i, s := range append(names[:len(names):len(names)], noNames...) {
			want := api.ErrBad
			if i < len(names) {
				want = api.OK
			}
			if c := example; r.from {
				c.From = s
				checkError(t, c, want)
				checkInside(t, c, want)
			}
			if c := example; r.to {
				c.To = s
				checkInside(t, c, want)
			}
			if c := example; r.name {
				c.Name = s
				checkInside(t, c, want)
			}
		}
	}
}

func TestPartiesOfAPaymentDiffer(t *testing.T) {
	for _, p := range names {
		checkInside(t, pay(p, p, "EUR", con("1")), api.ErrBad)
		for _, q := range names {
			if p != q {
				checkError(t, pay(p, q, "EUR", con("1")), api.OK)
			}
		}
		checkError(t, pay("p"+p[1:], "q"+p[1:], p, con("1")), api.OK)
	}
	checkError(t, pay("p", "p ", "EUR", con("1")), api.ErrBad)
	checkError(t, pay("p", "P", "EUR", con("1")), api.OK)
	// Other names may be the same.
	checkError(t, pay("p", "q", "p", con("1")), api.OK)
	checkError(t, pay("p", "q", "q", fix("q", 1)), api.OK)
	for _, kind := range []uint8{api.ConPick, api.ConCall} {
		_, c := exampleOf(kind)
		c.Name = c.From
		checkError(t, c, api.OK)
	}
}

func TestDates(t *testing.T) {
	for _, day := range someDays {
		checkInside(t, api.Contract{Kind: api.ConAt, Date: day, Sub: []api.Contract{zero()}}, api.OK)
	}
	for _, day := range noDays {
		checkInside(t, api.Contract{Kind: api.ConAt, Date: day, Sub: []api.Contract{zero()}}, api.ErrBad)
	}
}

// daysFrom returns n days in a row.
func daysFrom(first, n int) []int {
	l := make([]int, n)
	for i := range l {
		l[i] = first + i
	}
	return l
}

func TestListsOfDays(t *testing.T) {
	swapped, repeated, last := daysFrom(0, 100), daysFrom(0, 100), daysFrom(0, 100)
	swapped[98], swapped[99] = 99, 98
	repeated[99], last[99] = 98, api.MaxDate+1
	for _, k := range []struct {
		days []int
		want api.Errno
	}{
		{nil, api.ErrBad}, {[]int{}, api.ErrBad}, {daysFrom(7, 3)[:0], api.ErrBad}, {[]int{0}, api.OK}, {[]int{5}, api.OK}, {[]int{api.MaxDate}, api.OK}, {[]int{0, api.MaxDate}, api.OK}, {[]int{0, 1, 2}, api.OK}, {[]int{3, 7, 8, 4000}, api.OK},
		{daysFrom(0, 99), api.OK}, {daysFrom(0, 100), api.OK}, {daysFrom(0, 101), api.ErrBad}, {daysFrom(5, 102), api.ErrBad}, {daysFrom(0, 5000), api.ErrBad}, {daysFrom(api.MaxDate-99, 100), api.OK}, {daysFrom(api.MaxDate-98, 100), api.ErrBad}, {daysFrom(-1, 100), api.ErrBad},
		{[]int{0, 0}, api.ErrBad}, {[]int{5, 5}, api.ErrBad}, {[]int{5, 4}, api.ErrBad}, {[]int{1, 2, 2}, api.ErrBad}, {[]int{1, 1, 2}, api.ErrBad}, {[]int{1, 3, 2}, api.ErrBad}, {[]int{2, 1, 3}, api.ErrBad}, {[]int{1, 5, 1}, api.ErrBad}, {[]int{api.MaxDate, api.MaxDate}, api.ErrBad}, {[]int{1, 0}, api.ErrBad},
		{[]int{-1, 0}, api.ErrBad}, {[]int{0, -1}, api.ErrBad}, {swapped, api.ErrBad}, {repeated, api.ErrBad}, {last, api.ErrBad},
	} {
		for kind, r := range table {
			if _, c := exampleOf(kind); r.dates {
				c.Dates = k.days
				checkInside(t, c, k.want)
			}
		}
	}
	for _, day := range noDays {
		for kind, r := range table {
			if _, c := exampleOf(kind); r.dates {
				c.Dates = []int{day}
				checkInside(t, c, api.ErrBad)
			}
		}
	}
}

// TestEmptyListsAreNone has empty lists, with and without memory, where there must be none.
func TestEmptyListsAreNone(t *testing.T) {
	for kind := range table {
		r, example := exampleOf(kind)
		for _, days := range [][]int{nil, {}, daysFrom(5, 3)[:0]} {
			if c := example; !r.dates {
				c.Dates = days
				checkInside(t, c, api.OK)
			}
		}
		for _, below := range [][]api.Contract{nil, {}, {zero(), zero()}} {
			c := example
			if c.Sub = below[:0]; r.below == 0 {
				checkInside(t, c, api.OK)
			} else {
				checkInside(t, c, api.ErrBad)
			}
		}
		for _, none := range [][]api.Expr{nil, {}, {con("1"), con("2")}} {
			c := example
			if c.Expr = (api.Expr{Sub: none[:0]}); r.sort == ' ' {
				checkInside(t, c, api.OK)
			} else {
				checkInside(t, c, api.ErrBad)
			}
		}
	}
}

// TestPartsOfParts has contracts that are not well-formed far down.
func TestPartsOfParts(t *testing.T) {
	for _, bad := range []api.Contract{{}, {Kind: 11}, {Kind: api.ConZero, From: "p"}, pay("p", "q", "EUR", yes()), pay("p", "q", "EUR", api.Expr{}), of(api.ConBoth, zero())} {
		checkError(t, at(bad, 50), api.ErrBad)
		checkError(t, both(sized(400), both(sized(50), bad)), api.ErrBad)
		checkError(t, both(both(bad, sized(50)), sized(400)), api.ErrBad)
	}
	long := pay("p", strings.Repeat("q", 41), "EUR", con("1"))
	checkError(t, both(long, long), api.ErrBad)
}
