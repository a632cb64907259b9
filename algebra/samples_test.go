package algebra_test

import (
	"fmt"
	"math"
	"math/rand"
	"slices"
	"strings"

	"novation/api"
)

func con(a api.Rat) api.Expr {
	return api.Expr{Kind: api.ExprConst, Rat: a}
}

func fix(name string, date int) api.Expr {
	return api.Expr{Kind: api.ExprFix, Name: name, Date: date}
}

func now(name string) api.Expr {
	return api.Expr{Kind: api.ExprNow, Name: name}
}

func expr(kind uint8, parts ...api.Expr) api.Expr {
	return api.Expr{Kind: kind, Sub: parts}
}

func add(x, y api.Expr) api.Expr {
	return expr(api.ExprAdd, x, y)
}

func sub(x, y api.Expr) api.Expr {
	return expr(api.ExprSub, x, y)
}

func mul(x, y api.Expr) api.Expr {
	return expr(api.ExprMul, x, y)
}

func greater(x, y api.Expr) api.Expr {
	return expr(api.ExprMax, x, y)
}

func smaller(x, y api.Expr) api.Expr {
	return expr(api.ExprMin, x, y)
}

func cond(p, x, y api.Expr) api.Expr {
	return expr(api.ExprWhen, p, x, y)
}

func less(x, y api.Expr) api.Expr {
	return expr(api.ExprLess, x, y)
}

func equal(x, y api.Expr) api.Expr {
	return expr(api.ExprEqual, x, y)
}

func and(p, q api.Expr) api.Expr {
	return expr(api.ExprAnd, p, q)
}

func or(p, q api.Expr) api.Expr {
	return expr(api.ExprOr, p, q)
}

func not(p api.Expr) api.Expr {
	return expr(api.ExprNot, p)
}

// nots negates p n times.
func nots(p api.Expr, n int) api.Expr {
	for range n {
		p = not(p)
	}
	return p
}

// sum returns a sum of n fixings, all on the same day, that is not deep; nothing in it can be simplified.
func sum(name string, n int) api.Expr {
	if n == 1 {
		return now(name)
	}
	return add(sum(name, n/2), sum(name, n-n/2))
}

func yes() api.Expr {
	return expr(api.ExprEqual, con("0"), con("0"))
}

func no() api.Expr {
	return expr(api.ExprLess, con("0"), con("0"))
}

// is tells whether the fixing of a name on the current day is 1.
func is(name string) api.Expr {
	return expr(api.ExprEqual, now(name), con("1"))
}

// tens returns 10 to the power of n, which has n + 1 digits.
func tens(n int) api.Rat {
	return api.Rat("1" + strings.Repeat("0", n))
}

func zero() api.Contract {
	return api.Contract{Kind: api.ConZero}
}

func paid(from, to, ccy string, x api.Expr) api.Contract {
	return api.Contract{Kind: api.ConPay, From: from, To: to, Name: ccy, Expr: x}
}

// pay is a payment of Ann to Bob in USD.
func pay(x api.Expr) api.Contract {
	return paid("Ann", "Bob", "USD", x)
}

// one is a payment of 1.
func one() api.Contract {
	return pay(con("1"))
}

func of(kind uint8, parts ...api.Contract) api.Contract {
	return api.Contract{Kind: kind, Sub: parts}
}

func both(a, b api.Contract) api.Contract {
	return of(api.ConBoth, a, b)
}

func scale(x api.Expr, c api.Contract) api.Contract {
	return api.Contract{Kind: api.ConScale, Expr: x, Sub: []api.Contract{c}}
}

func branch(x api.Expr, a, b api.Contract) api.Contract {
	return api.Contract{Kind: api.ConIf, Expr: x, Sub: []api.Contract{a, b}}
}

func at(date int, c api.Contract) api.Contract {
	return api.Contract{Kind: api.ConAt, Date: date, Sub: []api.Contract{c}}
}

func pick(party, name string, a, b api.Contract) api.Contract {
	return api.Contract{Kind: api.ConPick, From: party, Name: name, Sub: []api.Contract{a, b}}
}

func call(party, name string, dates []int, c api.Contract) api.Contract {
	return api.Contract{Kind: api.ConCall, From: party, Name: name, Dates: dates, Sub: []api.Contract{c}}
}

func until(x api.Expr, dates []int, c api.Contract) api.Contract {
	return api.Contract{Kind: api.ConUntil, Expr: x, Dates: dates, Sub: []api.Contract{c}}
}

func when(x api.Expr, dates []int, c api.Contract) api.Contract {
	return api.Contract{Kind: api.ConWhen, Expr: x, Dates: dates, Sub: []api.Contract{c}}
}

// noNames are texts that are no names.
var noNames = []string{
	"", "-", "_", "0", "0a", "-a", "_a", " ", " a", "a ", "a b", "a\n", "a\x00", "a.b", "a/b", "@", "[", "{", "\u20ac", "\u00c4a", "a\u00df", "a\xff",
	strings.Repeat("a", api.MaxName+1), strings.Repeat("Z", 1000), strings.Repeat("\u00e9", 20),
}

// noDays are numbers beyond the range of days.
var noDays = []int{-1, -2, api.MaxDate + 1, api.MaxDate + 2, 1 << 31, 1 << 32, 1<<32 + 5, -1 << 32, math.MaxInt, math.MinInt}

var someDays = []int{0, 1, 2, 5, 365, 46340, api.MaxDate - 1, api.MaxDate}

// A row is what a kind has: dates, an expression of a sort (n for a number, t for a truth value, a blank for none), and contracts.
type row struct {
	dates bool
	sort  byte
	below int
}

var table = map[uint8]row{
	1:  {sort: ' '},
	2:  {sort: 'n'},
	3:  {sort: ' ', below: 2},
	4:  {sort: 'n', below: 1},
	5:  {sort: 't', below: 2},
	6:  {sort: ' ', below: 1},
	7:  {sort: ' ', below: 2},
	8:  {dates: true, sort: ' ', below: 1},
	9:  {dates: true, sort: 't', below: 1},
	10: {dates: true, sort: 't', below: 1},
}

// A world is from what random expressions, contracts and what is known are made.
type world struct {
	days    int       // days from 0 on
	rats    []api.Rat // values and constants
	missing int       // one of so many fixings is missing
}

// worlds are some with small numbers, without and with missing fixings, and with long ones.
var worlds = []world{
	{8, []api.Rat{"0", "1", "-1", "2", "1/2", "-3/2"}, 1000},
	{8, []api.Rat{"0", "1", "-1", "2", "1/2", "-3/2"}, 9},
	{8, []api.Rat{"0", "1", "-2/3", tens(700), "-" + tens(600), "1/" + tens(650), tens(999), "-1/" + tens(300)}, 1000},
}

var parties = []string{"Ann", "Bob", "Cid"}

var currencies = []string{"EUR", "USD"}

var observables = []string{"rate", "spot"}

func oneOf[T any](r *rand.Rand, l []T) T {
	return l[r.Intn(len(l))]
}

// known returns fixings of all observables and choices of all parties on most days.
func (w world) known(r *rand.Rand) api.Env {
	var v api.Env
	for _, name := range observables {
		for date := range w.days {
			if r.Intn(w.missing) > 0 {
				v.Fixings = append(v.Fixings, api.Fixing{Name: name, Date: date, Value: oneOf(r, w.rats)})
			}
		}
	}
	for _, party := range parties {
		for date := range w.days {
			if r.Intn(3) > 0 {
				v.Choices = append(v.Choices, api.Choice{Party: party, Name: "more", Date: date, First: r.Intn(3) == 0})
			}
		}
	}
	return v
}

func (w world) leaf(r *rand.Rand) api.Expr {
	switch r.Intn(5) {
	case 0:
		return now(oneOf(r, observables))
	case 1:
		return fix(oneOf(r, observables), r.Intn(w.days))
	case 2:
		return con([]api.Rat{"0", "1"}[r.Intn(2)])
	}
	return con(oneOf(r, w.rats))
}

// two returns two parts, which are often the same.
func two[T any](r *rand.Rand, make func() T) (T, T) {
	a := make()
	if r.Intn(4) == 0 {
		return a, a
	}
	return a, make()
}

func (w world) number(r *rand.Rand, depth int) api.Expr {
	if depth <= 1 || r.Intn(4) == 0 {
		return w.leaf(r)
	}
	x, y := two(r, func() api.Expr { return w.number(r, depth-1) })
	if depth > 2 && r.Intn(5) == 0 {
		return cond(w.truth(r, depth-1), x, y)
	}
	return expr(uint8(4+r.Intn(5)), x, y)
}

// truth returns a truth value with a depth of at most depth, which is at least 2.
func (w world) truth(r *rand.Rand, depth int) api.Expr {
	switch {
	case depth > 2 && r.Intn(3) == 0:
		return not(w.truth(r, depth-1))
	case depth > 2 && r.Intn(2) == 0:
		p, q := two(r, func() api.Expr { return w.truth(r, depth-1) })
		return expr(uint8(13+r.Intn(2)), p, q)
	case r.Intn(6) == 0:
		return []api.Expr{yes(), no()}[r.Intn(2)]
	}
	x, y := two(r, func() api.Expr { return w.number(r, depth-1) })
	return expr(uint8(11+r.Intn(2)), x, y)
}

// node returns a node of a kind with random parts, but without contracts.
func (w world) node(r *rand.Rand, kind uint8) api.Contract {
	c := api.Contract{Kind: kind}
	switch kind {
	case api.ConPay:
		i := r.Intn(3)
		c.From, c.To, c.Name = parties[i], parties[(i+1+r.Intn(2))%3], oneOf(r, currencies)
	case api.ConAt:
		c.Date = r.Intn(w.days)
	case api.ConPick, api.ConCall:
		c.From, c.Name = oneOf(r, parties), "more"
	}
	for date := r.Intn(4); table[kind].dates && date < w.days; date += 1 + r.Intn(5) {
		c.Dates = append(c.Dates, date)
	}
	switch table[kind].sort {
	case 'n':
		c.Expr = w.number(r, 1+r.Intn(3))
	case 't':
		c.Expr = w.truth(r, 2+r.Intn(3))
	}
	return c
}

// contract returns a contract with at most depth contracts on a way.
func (w world) contract(r *rand.Rand, depth int) api.Contract {
	kind := uint8(1 + r.Intn(10))
	if depth <= 1 {
		kind = []uint8{1, 2, 2}[r.Intn(3)]
	}
	c := w.node(r, kind)
	if table[kind].below == 0 {
		return c
	}
	a, b := two(r, func() api.Contract { return w.contract(r, depth-1) })
	c.Sub = []api.Contract{a, b}[:table[kind].below]
	return c
}

// exprSamples calls f with valid expressions of both sorts, a day, and what is known.
func exprSamples(seed int64, f func(r *rand.Rand, x api.Expr, day int, v api.Env)) {
	r := rand.New(rand.NewSource(seed))
	for i := range 3000 {
		w := worlds[i%len(worlds)]
		x := w.number(r, 2+r.Intn(4))
		if i%2 == 0 {
			x = w.truth(r, 2+r.Intn(5))
		}
		f(r, x, r.Intn(w.days), w.known(r))
	}
}

// samples calls f with valid contracts, days on which they are acquired, and what is known.
func samples(seed int64, f func(r *rand.Rand, c api.Contract, day int, v api.Env)) {
	r := rand.New(rand.NewSource(seed))
	for i := 0; i < 3000; {
		w := worlds[i%len(worlds)]
		if c := w.contract(r, 2+r.Intn(5)); sizeOf(c) <= api.MaxNodes {
			f(r, c, r.Intn(4), w.known(r))
			i++
		}
	}
}

func sizeOfExpr(x api.Expr) int {
	n := 1
	for _, part := range x.Sub {
		n += sizeOfExpr(part)
	}
	return n
}

func depthOfExpr(x api.Expr) int {
	n := 0
	for _, part := range x.Sub {
		n = max(n, depthOfExpr(part))
	}
	return n + 1
}

// sizeOf returns the size of a valid contract.
func sizeOf(c api.Contract) int {
	n := 1
	if c.Expr.Kind != 0 {
		n += sizeOfExpr(c.Expr)
	}
	for _, part := range c.Sub {
		n += sizeOf(part)
	}
	return n
}

// depthOf returns the depth of a valid contract.
func depthOf(c api.Contract) int {
	n := 0
	if c.Expr.Kind != 0 {
		n = depthOfExpr(c.Expr)
	}
	for _, part := range c.Sub {
		n = max(n, depthOf(part))
	}
	return n + 1
}

// short returns the beginning of an expression, a contract or another value as text.
func short(x any) string {
	s := ""
	switch y := x.(type) {
	case api.Expr:
		s = string(writtenExpr(nil, y))
	case api.Contract:
		s = string(written(nil, y))
	case []api.Flow:
		s = fmt.Sprintf("%d:", len(y))
		for _, f := range y[:min(len(y), 10)] {
			s += fmt.Sprintf(" %d %.10s>%.10s %.10s %.20s", f.Date, f.From, f.To, f.Ccy, f.Amount)
		}
	default:
		s = fmt.Sprintf("%v", x)
	}
	if len(s) > 300 {
		s = s[:300] + " .."
	}
	return s
}

// written appends a contract to a text that is not long yet.
func written(text []byte, c api.Contract) []byte {
	if len(text) > 300 {
		return text
	}
	text = fmt.Appendf(text, "c%d", c.Kind)
	if c.From != "" || c.To != "" || c.Name != "" {
		text = fmt.Appendf(text, "[%.10q %.10q %.10q]", c.From, c.To, c.Name)
	}
	if c.Date != 0 || len(c.Dates) > 0 {
		text = fmt.Appendf(text, "@%d%v", c.Date, c.Dates[:min(len(c.Dates), 10)])
	}
	if sizeOfExpr(c.Expr) > 1 || c.Expr.Kind > 0 {
		text = append(writtenExpr(append(text, '<'), c.Expr), '>')
	}
	for i, part := range c.Sub {
		text = written(append(text, "(,"[min(i, 1)]), part)
	}
	if len(c.Sub) > 0 {
		text = append(text, ')')
	}
	return text
}

func writtenExpr(text []byte, x api.Expr) []byte {
	if len(text) > 300 {
		return text
	}
	switch x.Kind {
	case api.ExprConst:
		text = fmt.Appendf(text, "%.20s", x.Rat)
	default:
		text = fmt.Appendf(text, "e%d", x.Kind)
	}
	if x.Name != "" || x.Date != 0 {
		text = fmt.Appendf(text, "[%.20q %d]", x.Name, x.Date)
	}
	for i, part := range x.Sub {
		text = writtenExpr(append(text, "(,"[min(i, 1)]), part)
	}
	if len(x.Sub) > 0 {
		text = append(text, ')')
	}
	return text
}

// copyOf returns a copy whose lists have room for more behind their ends, which has something in it.
func copyOf(c api.Contract) api.Contract {
	c.Expr = copyOfExpr(c.Expr)
	c.Dates = append(slices.Clone(c.Dates), -7, -7)[:len(c.Dates)]
	below := []api.Contract{}
	for _, part := range c.Sub {
		below = append(below, copyOf(part))
	}
	c.Sub = append(below, api.Contract{Name: "spare"})[:len(below)]
	return c
}

func copyOfExpr(x api.Expr) api.Expr {
	below := []api.Expr{}
	for _, part := range x.Sub {
		below = append(below, copyOfExpr(part))
	}
	x.Sub = append(below, api.Expr{Name: "spare"})[:len(below)]
	return x
}

// whole writes down all memory of a contract, also behind the ends of lists, and wholeExpr that of an expression.
func whole(c api.Contract) string {
	return string(wholeContract(nil, c))
}

func wholeExpr(x api.Expr) string {
	return string(appendWhole(nil, x))
}

func wholeContract(text []byte, c api.Contract) []byte {
	text = fmt.Appendf(text, "%d %q %q %q %d %d %v %d", c.Kind, c.From, c.To, c.Name, c.Date, len(c.Dates), c.Dates[:cap(c.Dates)], len(c.Sub))
	text = appendWhole(text, c.Expr)
	for _, part := range c.Sub[:cap(c.Sub)] {
		text = wholeContract(text, part)
	}
	return text
}

func appendWhole(text []byte, x api.Expr) []byte {
	text = fmt.Appendf(text, "%d %s %q %d %d", x.Kind, x.Rat, x.Name, x.Date, len(x.Sub))
	for _, part := range x.Sub[:cap(x.Sub)] {
		text = appendWhole(text, part)
	}
	return text
}
