package contract_test

import (
	"fmt"
	"math"
	"math/rand"
	"slices"
	"strings"

	"novation/api"
)

func con(a api.Rat) api.Expr {
	return api.Expr{Kind: api.ExprConst, Rat: a}
}

func fix(name string, date int) api.Expr {
	return api.Expr{Kind: api.ExprFix, Name: name, Date: date}
}

func now(name string) api.Expr {
	return api.Expr{Kind: api.ExprNow, Name: name}
}

func expr(kind uint8, parts ...api.Expr) api.Expr {
	return api.Expr{Kind: kind, Sub: parts}
}

// yes is a truth value of 3 nodes and a depth of 2.
func yes() api.Expr {
	return expr(api.ExprEqual, con("0"), con("0"))
}

// not negates x n times.
func not(x api.Expr, n int) api.Expr {
	for range n {
		x = expr(api.ExprNot, x)
	}
	return x
}

// number returns a number of n nodes, which is odd, that is not deep.
func number(n int) api.Expr {
	if n == 1 {
		return con("1")
	}
	left := (n - 1) / 2
	if left%2 == 0 {
		left--
	}
	return expr(api.ExprAdd, number(left), number(n-1-left))
}

// deepNumber returns a number of the depth n, and deepTruth a truth value of the depth n, which is at least 2.
func deepNumber(n int) api.Expr {
	x := con("1")
	for range n - 1 {
		x = expr(api.ExprMin, con("2"), x)
	}
	return x
}

func deepTruth(n int) api.Expr {
	return not(yes(), n-2)
}

func zero() api.Contract {
	return api.Contract{Kind: api.ConZero}
}

func pay(from, to, ccy string, x api.Expr) api.Contract {
	return api.Contract{Kind: api.ConPay, From: from, To: to, Name: ccy, Expr: x}
}

func of(kind uint8, below ...api.Contract) api.Contract {
	return api.Contract{Kind: kind, Sub: below}
}

func both(a, b api.Contract) api.Contract {
	return of(api.ConBoth, a, b)
}

// at puts c below n ConAts.
func at(c api.Contract, n int) api.Contract {
	for range n {
		c = of(api.ConAt, c)
	}
	return c
}

// A row is what the document's table says of a kind: whether it has a From, a To, a Name, a Date and Dates, the sort of its expression (n for a number, t for a truth value, a blank for none), and how many contracts it has.
type row struct {
	from, to, name, date, dates bool
	sort                        byte
	below                       int
}

// table has a row for each kind that exists.
var table = map[uint8]row{
	1:  {sort: ' '},
	2:  {from: true, to: true, name: true, sort: 'n'},
	3:  {sort: ' ', below: 2},
	4:  {sort: 'n', below: 1},
	5:  {sort: 't', below: 2},
	6:  {sort: ' ', date: true, below: 1},
	7:  {from: true, name: true, sort: ' ', below: 2},
	8:  {from: true, name: true, dates: true, sort: ' ', below: 1},
	9:  {sort: 't', dates: true, below: 1},
	10: {sort: 't', dates: true, below: 1},
}

// exprOf returns an expression of a sort.
func exprOf(sort byte) api.Expr {
	switch sort {
	case 'n':
		return con("7/2")
	case 't':
		return yes()
	}
	return api.Expr{}
}

// exampleOf returns the row of a kind, and a contract with what it says.
func exampleOf(kind uint8) (row, api.Contract) {
	r, c := table[kind], api.Contract{Kind: kind}
	if r.from {
		c.From = "p"
	}
	if r.to {
		c.To = "q"
	}
	if r.name {
		c.Name = "n"
	}
	if r.date {
		c.Date = 5
	}
	if r.dates {
		c.Dates = []int{4, 9}
	}
	c.Expr = exprOf(r.sort)
	for range r.below {
		c.Sub = append(c.Sub, zero())
	}
	return r, c
}

// everywhere returns contracts that are valid if c is, and in which c is each contract of each kind.
func everywhere(c api.Contract) []api.Contract {
	l := []api.Contract{c}
	for kind := range uint8(11) {
		r, _ := exampleOf(kind)
		for i := range r.below {
			_, whole := exampleOf(kind)
			whole.Sub[i] = c
			l = append(l, whole)
		}
	}
	return l
}

// withExpr returns contracts that are valid if x is a valid expression of a sort, one for each kind that has one.
func withExpr(x api.Expr, sort byte) []api.Contract {
	var l []api.Contract
	for kind := range uint8(11) {
		if r, c := exampleOf(kind); r.sort == sort {
			c.Expr = x
			l = append(l, c)
		}
	}
	return l
}

// sized returns a contract of n nodes that is not deep.
func sized(n int) api.Contract {
	switch n {
	case 1:
		return zero()
	case 2:
		return pay("p", "q", "EUR", con("1"))
	}
	return both(sized((n-1)/2), sized(n-1-(n-1)/2))
}

// deep returns contracts of the depth n, at least 5, with each place of each kind on the longest way, where there are contracts, expressions or both on it.
func deep(n int) []api.Contract {
	l := everywhere(at(zero(), n-2))[1:]
	l = append(l, everywhere(pay("p", "q", "EUR", deepNumber(n-2)))[1:]...)
	l = append(l, everywhere(at(pay("p", "q", "EUR", con("1")), n-3))[1:]...)
	l = append(l, withExpr(deepNumber(n-1), 'n')...)
	return append(l, withExpr(deepTruth(n-1), 't')...)
}

// isNone tells whether x is the zero expression.
func isNone(x api.Expr) bool {
	return x.Kind == 0 && x.Rat == "" && x.Name == "" && x.Date == 0 && len(x.Sub) == 0
}

func sizeOfExpr(x api.Expr) int {
	n := 1
	for _, part := range x.Sub {
		n += sizeOfExpr(part)
	}
	return n
}

func depthOfExpr(x api.Expr) int {
	n := 0
	for _, part := range x.Sub {
		n = max(n, depthOfExpr(part))
	}
	return n + 1
}

func sizeOf(c api.Contract) int {
	n := 1
	if !isNone(c.Expr) {
		n += sizeOfExpr(c.Expr)
	}
	for _, part := range c.Sub {
		n += sizeOf(part)
	}
	return n
}

func depthOf(c api.Contract) int {
	n := 0
	if !isNone(c.Expr) {
		n = depthOfExpr(c.Expr)
	}
	for _, part := range c.Sub {
		n = max(n, depthOf(part))
	}
	return n + 1
}

// names are some of all lengths, in increasing order.
var names = []string{"A", "AA", "B", "X-", "X-0", "X0", "X0-", "X1", "XA", "XX", "X_", "Xa", "Z", "a", "a-", "a-b_C-9", "a0", "aA", "a_", "aa", strings.Repeat("a", 39), strings.Repeat("a", api.MaxName), "spot", "z" + strings.Repeat("-", 39), "zz"}

// noNames are texts that are no names.
var noNames = []string{
	"", "-", "_", "0", "9", "0a", "1EUR", "-a", "_a", " ", " a", "a ", "a b", "a\n", "\ta", "a\x00", "\x00", "\x00a", "a.b", "a,b", "a/b", "a+b", "a@b", "@", "a[", "[", "`", "{", "$", "\"a\"", "\u20ac", "\u00c4a", "a\u00df", "a\xff", "\xff", "\uff21",
	strings.Repeat("a", api.MaxName+1), strings.Repeat("Z", 1000), strings.Repeat("\u00e9", 20),
}

// noDays are numbers beyond the range of days.
var noDays = []int{-1, -2, api.MaxDate + 1, api.MaxDate + 2, 1 << 31, 1 << 32, 1<<32 + 5, -1 << 32, math.MaxInt, math.MinInt}

var someDays = []int{0, 1, 2, 5, 9, 10, 365, 46340, api.MaxDate - 1, api.MaxDate}

// badExprs are expressions that are not valid, with at most 5 nodes, and not zero.
func badExprs() []api.Expr {
	l := []api.Expr{
		{Kind: api.ExprConst}, {Kind: 10}, {Kind: 16}, {Kind: 255}, {Rat: "1"}, {Name: "a"}, {Date: 1}, {Date: -1}, {Sub: []api.Expr{{}}},
		con("x"), con("2/4"), con("-0"), con("1/1"), con("1" + api.Rat(strings.Repeat("0", api.MaxDigits))), {Kind: api.ExprConst, Rat: "1", Name: "a"}, {Kind: api.ExprConst, Rat: "1", Date: 1},
		fix("", 1), fix("a b", 1), fix("a", -1), fix("a", api.MaxDate+1), now(""), now("0"), {Kind: api.ExprNow, Name: "a", Date: 1},
		expr(api.ExprAdd), expr(api.ExprAdd, con("1")), expr(api.ExprAdd, con("1"), con("1"), con("1")), expr(api.ExprAdd, yes(), con("1")), expr(api.ExprAdd, con("1"), api.Expr{}), expr(api.ExprLess, con("1")), expr(api.ExprLess, con("1"), yes()), expr(api.ExprNot, con("1")), expr(api.ExprNot), expr(api.ExprNot, api.Expr{}),
	}
	return slices.Clip(l)
}

// short returns the beginning of a contract as text.
func short(c api.Contract) string {
	text := written(nil, c)
	if len(text) > 300 {
		text = append(text[:300], " .."...)
	}
	return string(text)
}

// written appends a contract to a text that is not long yet.
func written(text []byte, c api.Contract) []byte {
	if len(text) > 300 {
		return text
	}
	text = fmt.Appendf(text, "%d", c.Kind)
	if c.From != "" || c.To != "" || c.Name != "" {
		text = fmt.Appendf(text, "[%.50q %.50q %.50q]", c.From, c.To, c.Name)
	}
	if c.Date != 0 || len(c.Dates) > 0 {
		text = fmt.Appendf(text, "@%d%v", c.Date, c.Dates[:min(len(c.Dates), 10)])
	}
	if !isNone(c.Expr) {
		text = append(writtenExpr(append(text, '<'), c.Expr), '>')
	}
	for i, part := range c.Sub {
		text = written(append(text, "(,"[min(i, 1)]), part)
	}
	if len(c.Sub) > 0 {
		text = append(text, ')')
	}
	return text
}

func writtenExpr(text []byte, x api.Expr) []byte {
	if len(text) > 300 {
		return text
	}
	text = fmt.Appendf(text, "%d", x.Kind)
	if x.Rat != "" || x.Name != "" || x.Date != 0 {
		text = fmt.Appendf(text, "[%.40s %.50q %d]", x.Rat, x.Name, x.Date)
	}
	for i, part := range x.Sub {
		text = writtenExpr(append(text, "(,"[min(i, 1)]), part)
	}
	if len(x.Sub) > 0 {
		text = append(text, ')')
	}
	return text
}

// randomExpr returns a valid expression of a sort, with a depth of at most depth, which is at least 2 for truth values.
func randomExpr(r *rand.Rand, sort byte, depth int) api.Expr {
	switch {
	case sort == 'n' && (depth <= 1 || r.Intn(2) == 0):
		return []api.Expr{con("7/2"), fix(names[r.Intn(9)], 1<<r.Intn(16)), now(names[r.Intn(9)])}[r.Intn(3)]
	case sort == 'n':
		return expr(uint8(4+r.Intn(5)), randomExpr(r, 'n', depth-1), randomExpr(r, 'n', depth-1))
	case depth <= 2 || r.Intn(2) == 0:
		return expr(uint8(11+r.Intn(2)), randomExpr(r, 'n', depth-1), randomExpr(r, 'n', depth-1))
	}
	return not(randomExpr(r, 't', depth-1), 1)
}

// randomNode returns a node of a kind with random parts, but without contracts.
func randomNode(r *rand.Rand, kind uint8) api.Contract {
	row, c := table[kind], api.Contract{Kind: kind}
	i, j := r.Intn(6), 6+r.Intn(6)
	if r.Intn(2) == 0 {
		i, j = j, i
	}
	if row.from {
		c.From = names[i]
	}
	if row.to {
		c.To = names[j]
	}
	if row.name {
		c.Name = names[r.Intn(len(names))]
	}
	if row.date {
		c.Date = 1 << r.Intn(16)
	}
	for day := 1 + r.Intn(9); row.dates && day <= api.MaxDate && len(c.Dates) < 5; day *= 2 + r.Intn(5) {
		c.Dates = append(c.Dates, day)
	}
	if row.sort != ' ' {
		c.Expr = randomExpr(r, row.sort, 2+r.Intn(2))
	}
	return c
}

// random returns a contract that is valid if it is not too large, with at most depth contracts on a way.
func random(r *rand.Rand, depth int) api.Contract {
	kind := uint8(1 + r.Intn(10))
	if depth <= 1 {
		kind = uint8(1 + r.Intn(2))
	}
	c := randomNode(r, kind)
	for range table[kind].below {
		c.Sub = append(c.Sub, random(r, depth-1))
	}
	return c
}

// samples calls f with valid contracts.
func samples(seed int64, n int, f func(r *rand.Rand, c api.Contract)) {
	r := rand.New(rand.NewSource(seed))
	for n > 0 {
		if c := random(r, 2+r.Intn(8)); sizeOf(c) <= api.MaxNodes && depthOf(c) <= api.MaxDepth {
			f(r, c)
			n--
		}
	}
}
