package observable_test

import (
	"fmt"
	"math"
	"math/big"
	"math/rand"
	"strings"

	"novation/api"
)

func con(a api.Rat) api.Expr {
	return api.Expr{Kind: api.ExprConst, Rat: a}
}

func fix(name string, date int) api.Expr {
	return api.Expr{Kind: api.ExprFix, Name: name, Date: date}
}

func now(name string) api.Expr {
	return api.Expr{Kind: api.ExprNow, Name: name}
}

func of(kind uint8, parts ...api.Expr) api.Expr {
	return api.Expr{Kind: kind, Sub: parts}
}

func fixing(name string, date int, value api.Rat) api.Fixing {
	return api.Fixing{Name: name, Date: date, Value: value}
}

func choice(party, name string, date int, first bool) api.Choice {
	return api.Choice{Party: party, Name: name, Date: date, First: first}
}

func yes() api.Expr {
	return of(api.ExprEqual, con("0"), con("0"))
}

func no() api.Expr {
	return of(api.ExprLess, con("0"), con("0"))
}

// not negates x n times.
func not(x api.Expr, n int) api.Expr {
	for range n {
		x = of(api.ExprNot, x)
	}
	return x
}

// A row is what the document's table says of a kind: whether it has a Rat, a Name and a Date, the sorts of its parts, and its own, n for numbers and t for truth values.
type row struct {
	rat, name, date bool
	parts           string
	sort            byte
}

// table has a row for each kind that exists.
var table = map[uint8]row{
	1:  {rat: true, sort: 'n'},
	2:  {name: true, date: true, sort: 'n'},
	3:  {name: true, sort: 'n'},
	4:  {parts: "nn", sort: 'n'},
	5:  {parts: "nn", sort: 'n'},
	6:  {parts: "nn", sort: 'n'},
	7:  {parts: "nn", sort: 'n'},
	8:  {parts: "nn", sort: 'n'},
	9:  {parts: "tnn", sort: 'n'},
	11: {parts: "nn", sort: 't'},
	12: {parts: "nn", sort: 't'},
	13: {parts: "tt", sort: 't'},
	14: {parts: "tt", sort: 't'},
	15: {parts: "t", sort: 't'},
}

// exampleOf returns the row of a kind, and an expression with what it says.
func exampleOf(kind uint8) (row, api.Expr) {
	r, x := table[kind], api.Expr{Kind: kind}
	if r.rat {
		x.Rat = "1/2"
	}
	if r.name {
		x.Name = "a"
	}
	if r.date {
		x.Date = 5
	}
	x.Sub = partsOf(r.parts)
	return r, x
}

// partsOf returns parts of sorts.
func partsOf(sorts string) []api.Expr {
	var l []api.Expr
	for i := range sorts {
		if sorts[i] == 'n' {
			l = append(l, con("7"))
		} else {
			l = append(l, yes())
		}
	}
	return l
}

// sorts are all lists of at most n sorts.
func sorts(n int) []string {
	l := []string{""}
	for i := 0; i < len(l); i++ {
		if len(l[i]) < n {
			l = append(l, l[i]+"n", l[i]+"t")
		}
	}
	return l
}

// everywhere returns expressions that are valid if x is a valid expression of a sort, and in which x is each part of each kind.
func everywhere(x api.Expr, sort byte) []api.Expr {
	l := []api.Expr{x}
	for kind, r := range table {
		for i := range r.parts {
			if r.parts[i] == sort {
				_, whole := exampleOf(kind)
				whole.Sub[i] = x
				l = append(l, whole)
			}
		}
	}
	return l
}

// sized returns a number of n nodes, for n = 1, 3 and from 5 on, that is not deep.
func sized(n int) api.Expr {
	switch {
	case n == 1:
		return con("1")
	case n%2 == 0:
		return of(api.ExprWhen, yes(), con("1"), sized(n-5))
	}
	left := (n - 1) / 2
	if left%2 == 0 {
		left--
	}
	return of(api.ExprAdd, sized(left), sized(n-1-left))
}

// deep returns expressions of the depth n, at least 4, of which each part of each kind is the deepest one.
func deep(n int) []api.Expr {
	x := con("1")
	for range n - 2 {
		x = of(api.ExprMin, x, con("1"))
	}
	return append(everywhere(x, 'n')[1:], everywhere(not(yes(), n-3), 't')[1:]...)
}

func sizeOf(x api.Expr) int {
	n := 1
	for _, part := range x.Sub {
		n += sizeOf(part)
	}
	return n
}

func depthOf(x api.Expr) int {
	n := 0
	for _, part := range x.Sub {
		n = max(n, depthOf(part))
	}
	return n + 1
}

// names are some of all lengths, in increasing order.
var names = []string{"A", "AA", "B", "X-", "X-0", "X0", "X0-", "X1", "XA", "XX", "X_", "Xa", "Z", "a", "a-", "a-b_C-9", "a0", "aA", "a_", "aa", strings.Repeat("a", 39), strings.Repeat("a", api.MaxName), "spot", "z" + strings.Repeat("-", 39), "zz"}

// noNames are texts that are no names.
var noNames = []string{
	"", "-", "_", "0", "9", "0a", "1EUR", "-a", "_a", " ", " a", "a ", "a b", "a\n", "\ta", "a\x00", "\x00", "\x00a", "a.b", "a,b", "a/b", "a+b", "a:b", "a;b", "a@b", "@", "a[", "[", "a`", "`", "a{", "{", "$", "#", "\"a\"", "\u20ac", "\u00c4a", "a\u00df", "a\xff", "\xff",
	"\uff21", "a\u200b", "\u0410", "a\u0301", strings.Repeat("a", api.MaxName+1), strings.Repeat("Z", 1000), strings.Repeat("\u00e9", 20), "a" + strings.Repeat(" ", 39),
}

// noDays are numbers beyond the range of days.
var noDays = []int{-1, -2, api.MaxDate + 1, api.MaxDate + 2, 1 << 31, 1 << 32, 1<<32 + 5, -1 << 32, math.MaxInt, math.MinInt}

var someDays = []int{0, 1, 2, 5, 9, 10, 365, 46340, api.MaxDate - 1, api.MaxDate}

// tens returns 10 to the power of n, which has n + 1 digits.
func tens(n int) api.Rat {
	return api.Rat("1" + strings.Repeat("0", n))
}

// noRats are texts that are no canonical rationals, and the error that rational.Check has for them.
func noRats() map[api.Rat]api.Errno {
	l := map[api.Rat]api.Errno{
		tens(api.MaxDigits): api.ErrBig, "-" + tens(api.MaxDigits): api.ErrBig, "1/" + tens(api.MaxDigits): api.ErrBig, tens(api.MaxDigits) + "/3": api.ErrBig, api.Rat(strings.Repeat("7", 5000)): api.ErrBig,
	}
	for _, a := range []api.Rat{"", "-", "/", "1/", "/2", "-0", "00", "01", "+1", "1.0", "1.5", ".5", "1,5", "1e2", "0x10", " 1", "1 ", "1/1", "1/0", "0/2", "2/4", "1/-2", "1/02", "1/2/3", "1//2", "a", "\u0661", "NaN", "\xff", "0" + tens(api.MaxDigits)} {
		l[a] = api.ErrForm
	}
	return l
}

// rats are rationals, the last ones with many digits.
var rats = []api.Rat{
	"0", "1", "-1", "2", "-2", "3", "7", "10", "-10", "1/2", "-1/2", "1/3", "2/3", "-3/2", "7/2", "5/2", "-7/2", "22/7", "355/113", "1000000007", "-999999999999999999999", "18446744073709551616/3",
	tens(499), tens(500), "-" + tens(500), "1/" + tens(499), "-1/" + tens(500), tens(500) + "/3", tens(999), api.Rat(strings.Repeat("9", api.MaxDigits)), "1/" + api.Rat(strings.Repeat("9", api.MaxDigits)), tens(998) + "/" + api.Rat(strings.Repeat("9", 999)),
}

// few are the rationals without many digits.
var few = rats[:22]

// short returns the beginning of a value as text.
func short(x any) string {
	s := fmt.Sprintf("%v", x)
	if expr, is := x.(api.Expr); is {
		s = string(written(nil, expr))
	}
	if len(s) > 200 {
		s = s[:200] + " .."
	}
	return s
}

// written appends an expression to a text that is not long yet.
func written(text []byte, x api.Expr) []byte {
	if len(text) > 200 {
		return text
	}
	text = fmt.Appendf(text, "%d", x.Kind)
	if x.Rat != "" || x.Name != "" || x.Date != 0 {
		text = fmt.Appendf(text, "[%.40s %.50q %d]", x.Rat, x.Name, x.Date)
	}
	for i, part := range x.Sub {
		text = written(append(text, "(,"[min(i, 1)]), part)
	}
	if len(x.Sub) > 0 {
		text = append(text, ')')
	}
	return text
}

// A model calculates values as the document says, with the package math/big.
type model struct {
	day   int
	known map[api.Fixing]*big.Rat // without their values in the keys
}

func modelOf(day int, v api.Env) model {
	m := model{day, map[api.Fixing]*big.Rat{}}
	for _, f := range v.Fixings {
		m.known[api.Fixing{Name: f.Name, Date: f.Date}] = ratOf(f.Value)
	}
	return m
}

func ratOf(a api.Rat) *big.Rat {
	x, ok := new(big.Rat).SetString(string(a))
	if !ok {
		panic("no rational: " + string(a))
	}
	return x
}

// tooLong tells whether one of some integers has more than MaxDigits digits.
func tooLong(l ...*big.Int) bool {
	for _, n := range l {
		if len(strings.TrimPrefix(n.String(), "-")) > api.MaxDigits {
			return true
		}
	}
	return false
}

// operate returns what an operation of layer 2 returns, and how the two numbers compare.
func operate(kind uint8, a, b *big.Rat) (*big.Rat, int, api.Errno) {
	times := func(x, y *big.Int) *big.Int { return new(big.Int).Mul(x, y) }
	left, right, below := times(a.Num(), b.Denom()), times(b.Num(), a.Denom()), times(a.Denom(), b.Denom())
	bad, c := false, new(big.Rat)
	switch kind {
	case api.ExprAdd:
		bad = tooLong(left, right, below, new(big.Int).Add(left, right))
		c.Add(a, b)
	case api.ExprSub:
		bad = tooLong(left, right, below, new(big.Int).Sub(left, right))
		c.Sub(a, b)
	case api.ExprMul:
		bad = tooLong(times(a.Num(), b.Num()), below)
		c.Mul(a, b)
	default:
		bad = tooLong(left, right)
		if c = a; (kind == api.ExprMax) == (a.Cmp(b) < 0) {
			c = b
		}
	}
	if bad {
		return nil, 0, api.ErrBig
	}
	return c, a.Cmp(b), api.OK
}

// calculate returns the value of a valid expression: a number, or whether it is true.
func (m model) calculate(x api.Expr) (*big.Rat, bool, api.Errno) {
	switch x.Kind {
	case api.ExprConst:
		return ratOf(x.Rat), false, api.OK
	case api.ExprFix, api.ExprNow:
		if x.Kind == api.ExprNow {
			x.Date = m.day
		}
		if value := m.known[api.Fixing{Name: x.Name, Date: x.Date}]; value != nil {
			return value, false, api.OK
		}
		return nil, false, api.ErrFix
	}
	a, is, e := m.calculate(x.Sub[0])
	if e != api.OK {
		return nil, false, e
	}
	next := 1
	switch x.Kind {
	case api.ExprNot:
		return nil, !is, api.OK
	case api.ExprWhen:
		if !is {
			next = 2
		}
		return m.calculate(x.Sub[next])
	case api.ExprAnd, api.ExprOr:
		if is == (x.Kind == api.ExprOr) {
			return nil, is, api.OK
		}
		return m.calculate(x.Sub[1])
	}
	b, _, e := m.calculate(x.Sub[1])
	if e != api.OK {
		return nil, false, e
	}
	c, order, e := operate(x.Kind, a, b)
	switch {
	case e != api.OK:
		return nil, false, e
	case x.Kind == api.ExprLess:
		return nil, order < 0, api.OK
	case x.Kind == api.ExprEqual:
		return nil, order == 0, api.OK
	}
	return c, false, api.OK
}

// random returns a valid expression of a sort, with constants from l, fixings of a to d, and a depth of at most depth, which is at least 2 for truth values.
func random(r *rand.Rand, sort byte, depth int, l []api.Rat) api.Expr {
	name, date := "abcd"[r.Intn(4):][:1], r.Intn(4)
	if sort == 'n' && (depth <= 2 || r.Intn(5) == 0) {
		switch r.Intn(4) {
		case 0:
			return fix(name, date)
		case 1:
			return now(name)
		}
		return con(l[r.Intn(len(l))])
	}
	kinds := []uint8{4, 5, 6, 7, 8, 9}
	if sort == 't' {
		if kinds = []uint8{11, 12, 11, 12, 13, 14, 15}; depth <= 2 {
			kinds = kinds[:2]
		}
	}
	kind := kinds[r.Intn(len(kinds))]
	x := api.Expr{Kind: kind}
	for i := range table[kind].parts {
		x.Sub = append(x.Sub, random(r, table[kind].parts[i], depth-1, l))
	}
	return x
}

// randomEnv returns some fixings of a to d on the days 0 to 3, and some choices.
func randomEnv(r *rand.Rand, l []api.Rat) api.Env {
	var v api.Env
	for _, name := range []string{"a", "b", "c", "d"} {
		for date := range 4 {
			if r.Intn(5) > 0 {
				v.Fixings = append(v.Fixings, api.Fixing{Name: name, Date: date, Value: l[r.Intn(len(l))]})
			}
			if r.Intn(3) == 0 {
				v.Choices = append(v.Choices, api.Choice{Party: "p", Name: name, Date: date, First: r.Intn(2) == 0})
			}
		}
	}
	return v
}
