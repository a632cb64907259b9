package meaning_test

import (
	"fmt"
	"math"
	"math/rand"
	"slices"
	"strings"

	"novation/api"
)

func con(a api.Rat) api.Expr {
	return api.Expr{Kind: api.ExprConst, Rat: a}
}

func fix(name string, date int) api.Expr {
	return api.Expr{Kind: api.ExprFix, Name: name, Date: date}
}

func now(name string) api.Expr {
	return api.Expr{Kind: api.ExprNow, Name: name}
}

func expr(kind uint8, parts ...api.Expr) api.Expr {
	return api.Expr{Kind: kind, Sub: parts}
}

func yes() api.Expr {
	return expr(api.ExprEqual, con("0"), con("0"))
}

func no() api.Expr {
	return expr(api.ExprLess, con("0"), con("0"))
}

// is tells whether the fixing of a name on the current day is 1.
func is(name string) api.Expr {
	return expr(api.ExprEqual, now(name), con("1"))
}

// missing is a number that is never known, and unknown a truth value.
func missing() api.Expr {
	return now("missing")
}

func unknown() api.Expr {
	return is("missing")
}

// huge is a number of too many digits, and tooHuge a truth value that needs one.
func huge() api.Expr {
	return expr(api.ExprMul, con(tens(500)), con(tens(500)))
}

func tooHuge() api.Expr {
	return expr(api.ExprLess, huge(), con("0"))
}

// tens returns 10 to the power of n, which has n + 1 digits.
func tens(n int) api.Rat {
	return api.Rat("1" + strings.Repeat("0", n))
}

func zero() api.Contract {
	return api.Contract{Kind: api.ConZero}
}

func paid(from, to, ccy string, x api.Expr) api.Contract {
	return api.Contract{Kind: api.ConPay, From: from, To: to, Name: ccy, Expr: x}
}

// pay is a payment of Ann to Bob in USD.
func pay(x api.Expr) api.Contract {
	return paid("Ann", "Bob", "USD", x)
}

// one is a payment of 1.
func one() api.Contract {
	return pay(con("1"))
}

func of(kind uint8, parts ...api.Contract) api.Contract {
	return api.Contract{Kind: kind, Sub: parts}
}

func both(a, b api.Contract) api.Contract {
	return of(api.ConBoth, a, b)
}

// all is all contracts of a list, in order, without being deep.
func all(l []api.Contract) api.Contract {
	switch len(l) {
	case 0:
		return zero()
	case 1:
		return l[0]
	}
	return both(all(l[:len(l)/2]), all(l[len(l)/2:]))
}

func scale(x api.Expr, c api.Contract) api.Contract {
	return api.Contract{Kind: api.ConScale, Expr: x, Sub: []api.Contract{c}}
}

func branch(x api.Expr, a, b api.Contract) api.Contract {
	return api.Contract{Kind: api.ConIf, Expr: x, Sub: []api.Contract{a, b}}
}

func at(date int, c api.Contract) api.Contract {
	return api.Contract{Kind: api.ConAt, Date: date, Sub: []api.Contract{c}}
}

func pick(party, name string, a, b api.Contract) api.Contract {
	return api.Contract{Kind: api.ConPick, From: party, Name: name, Sub: []api.Contract{a, b}}
}

func call(party, name string, dates []int, c api.Contract) api.Contract {
	return api.Contract{Kind: api.ConCall, From: party, Name: name, Dates: dates, Sub: []api.Contract{c}}
}

func until(x api.Expr, dates []int, c api.Contract) api.Contract {
	return api.Contract{Kind: api.ConUntil, Expr: x, Dates: dates, Sub: []api.Contract{c}}
}

func when(x api.Expr, dates []int, c api.Contract) api.Contract {
	return api.Contract{Kind: api.ConWhen, Expr: x, Dates: dates, Sub: []api.Contract{c}}
}

// flow is a flow of a payment of Ann to Bob in USD.
func flow(date int, a api.Rat) api.Flow {
	return api.Flow{Date: date, From: "Ann", To: "Bob", Ccy: "USD", Amount: a}
}

// back is a flow the other way.
func back(date int, a api.Rat) api.Flow {
	return api.Flow{Date: date, From: "Bob", To: "Ann", Ccy: "USD", Amount: a}
}

// fixed returns what is known if the fixings of a name are values on the days from first on; a blank leaves out a day.
func fixed(name string, first int, values ...api.Rat) api.Env {
	var v api.Env
	for i, value := range values {
		if value != "" {
			v.Fixings = append(v.Fixings, api.Fixing{Name: name, Date: first + i, Value: value})
		}
	}
	return v
}

// chose returns what is known if a party chose by a name on the days from first on: y for First, n for not First, a blank for no choice.
func chose(party, name string, first int, choices string) api.Env {
	var v api.Env
	for i, made := range choices {
		if made != ' ' {
			v.Choices = append(v.Choices, api.Choice{Party: party, Name: name, Date: first + i, First: made == 'y'})
		}
	}
	return v
}

// names are some of all lengths.
var names = []string{"A", "Ann", "X-", "X_0", "Z", "a", "a-b_C-9", "aa", strings.Repeat("a", 39), strings.Repeat("a", api.MaxName), "z" + strings.Repeat("-", 39)}

// noNames are texts that are no names.
var noNames = []string{
	"", "-", "_", "0", "0a", "-a", "_a", " ", " a", "a ", "a b", "a\n", "a\x00", "a.b", "a/b", "@", "[", "{", "\u20ac", "\u00c4a", "a\u00df", "a\xff",
	strings.Repeat("a", api.MaxName+1), strings.Repeat("Z", 1000), strings.Repeat("\u00e9", 20),
}

// noDays are numbers beyond the range of days.
var noDays = []int{-1, -2, api.MaxDate + 1, api.MaxDate + 2, 1 << 31, 1 << 32, 1<<32 + 5, -1 << 32, math.MaxInt, math.MinInt}

var someDays = []int{0, 1, 2, 5, 365, 46340, api.MaxDate - 1, api.MaxDate}

// noAmounts are texts that are no amounts.
var noAmounts = []api.Rat{
	"0", "-1", "-1/2", "-" + tens(999), "", "-", "/", "1/", "/2", "-0", "00", "01", "+1", "1.0", "1,5", "1e2", " 1", "1 ", "1/1", "1/0", "0/2", "2/4", "1/-2", "-1/-2", "1/02", "1/2/3", "a", "\u0661", "\xff", tens(1000), "1/" + tens(1000), "-" + tens(1000),
}

// amounts are all valid.
var amounts = []api.Rat{"1", "2", "1/2", "7/3", "22/7", "1000000007/3", tens(999), "1/" + tens(999), api.Rat(strings.Repeat("9", 1000)), tens(999) + "/" + api.Rat(strings.Repeat("9", 1000))}

// A row is what a kind has: dates, an expression of a sort (n for a number, t for a truth value, a blank for none), and contracts.
type row struct {
	dates bool
	sort  byte
	below int
}

var table = map[uint8]row{
	1:  {sort: ' '},
	2:  {sort: 'n'},
	3:  {sort: ' ', below: 2},
	4:  {sort: 'n', below: 1},
	5:  {sort: 't', below: 2},
	6:  {sort: ' ', below: 1},
	7:  {sort: ' ', below: 2},
	8:  {dates: true, sort: ' ', below: 1},
	9:  {dates: true, sort: 't', below: 1},
	10: {dates: true, sort: 't', below: 1},
}

// A world is from what random contracts and what is known are made.
type world struct {
	days    int       // days from 0 on
	rats    []api.Rat // values and constants
	missing int       // one of so many fixings is missing
}

var parties = []string{"Ann", "Bob", "Cid"}

var currencies = []string{"EUR", "USD"}

var observables = []string{"rate", "spot"}

func oneOf(r *rand.Rand, l []string) string {
	return l[r.Intn(len(l))]
}

// known returns fixings of all observables and choices of all parties on most days.
func (w world) known(r *rand.Rand) api.Env {
	var v api.Env
	for _, name := range observables {
		for date := range w.days {
			if r.Intn(w.missing) > 0 {
				v.Fixings = append(v.Fixings, api.Fixing{Name: name, Date: date, Value: w.rats[r.Intn(len(w.rats))]})
			}
		}
	}
	for _, party := range parties {
		for date := range w.days {
			if r.Intn(3) > 0 {
				v.Choices = append(v.Choices, api.Choice{Party: party, Name: "more", Date: date, First: r.Intn(3) == 0})
			}
		}
	}
	return v
}

func (w world) number(r *rand.Rand, depth int) api.Expr {
	if depth <= 1 || r.Intn(3) > 0 {
		return []api.Expr{con(w.rats[r.Intn(len(w.rats))]), now(oneOf(r, observables)), fix(oneOf(r, observables), r.Intn(w.days))}[r.Intn(3)]
	}
	return expr(uint8(4+r.Intn(5)), w.number(r, depth-1), w.number(r, depth-1))
}

func (w world) truth(r *rand.Rand) api.Expr {
	x := expr(uint8(11+r.Intn(2)), w.number(r, 2), w.number(r, 1))
	if r.Intn(3) == 0 {
		x = expr(api.ExprNot, x)
	}
	return x
}

// node returns a node of a kind with random parts, but without contracts.
func (w world) node(r *rand.Rand, kind uint8) api.Contract {
	c := api.Contract{Kind: kind}
	switch kind {
	case api.ConPay:
		i := r.Intn(3)
		c.From, c.To, c.Name = parties[i], parties[(i+1+r.Intn(2))%3], oneOf(r, currencies)
	case api.ConAt:
		c.Date = r.Intn(w.days)
	case api.ConPick, api.ConCall:
		c.From, c.Name = oneOf(r, parties), "more"
	}
	for date := r.Intn(4); table[kind].dates && date < w.days; date += 1 + r.Intn(5) {
		c.Dates = append(c.Dates, date)
	}
	switch table[kind].sort {
	case 'n':
		c.Expr = w.number(r, 3)
	case 't':
		c.Expr = w.truth(r)
	}
	return c
}

// contract returns a valid contract with at most depth contracts on a way.
func (w world) contract(r *rand.Rand, depth int) api.Contract {
	kind := uint8(1 + r.Intn(10))
	if depth <= 1 {
		kind = 2
	} else if r.Intn(3) == 0 {
		kind = 3
	}
	c := w.node(r, kind)
	for range table[kind].below {
		c.Sub = append(c.Sub, w.contract(r, depth-1))
	}
	return c
}

// worlds are some with small numbers, without and with missing fixings, and with long ones.
var worlds = []world{
	{12, []api.Rat{"0", "1", "-1", "2", "1/2", "-3/2", "7/3"}, 1000},
	{12, []api.Rat{"0", "1", "-1", "2", "1/2", "-3/2", "7/3"}, 20},
	{12, []api.Rat{"0", "1", "-2/3", tens(700), "-" + tens(600), "1/" + tens(650), tens(999), "-1/" + tens(300)}, 1000},
}

// samples calls f with contracts, days on which they are acquired, and what is known.
func samples(seed int64, f func(r *rand.Rand, c api.Contract, day int, v api.Env)) {
	r := rand.New(rand.NewSource(seed))
	for i := range 3000 {
		w := worlds[i%len(worlds)]
		c := w.contract(r, 2+r.Intn(5))
		f(r, c, r.Intn(4), w.known(r))
	}
}

// short returns the beginning of a value as text.
func short(x any) string {
	s := fmt.Sprintf("%v", x)
	switch y := x.(type) {
	case api.Contract:
		s = string(written(nil, y))
	case []api.Flow:
		s = fmt.Sprintf("%d:", len(y))
		for _, f := range y[:min(len(y), 10)] {
			s += fmt.Sprintf(" %d %.10s>%.10s %.10s %.20s", f.Date, f.From, f.To, f.Ccy, f.Amount)
		}
	}
	if len(s) > 400 {
		s = s[:400] + " .."
	}
	return s
}

// written appends a contract to a text that is not long yet.
func written(text []byte, c api.Contract) []byte {
	if len(text) > 400 {
		return text
	}
	text = fmt.Appendf(text, "%d[%.10q %.10q %.10q]@%d%v", c.Kind, c.From, c.To, c.Name, c.Date, c.Dates[:min(len(c.Dates), 10)])
	text = writtenExpr(text, c.Expr)
	for i, part := range c.Sub {
		text = written(append(text, "(,"[min(i, 1)]), part)
	}
	return append(text, ')')
}

func writtenExpr(text []byte, x api.Expr) []byte {
	text = fmt.Appendf(text, "<%d %.20s %.20s %d", x.Kind, x.Rat, x.Name, x.Date)
	for _, part := range x.Sub {
		if len(text) < 400 {
			text = writtenExpr(text, part)
		}
	}
	return append(text, '>')
}

// copyOf returns a copy whose lists have room for more behind their ends, which has something in it.
func copyOf(c api.Contract) api.Contract {
	c.Expr = copyOfExpr(c.Expr)
	c.Dates = append(slices.Clone(c.Dates), -7, -7)[:len(c.Dates)]
	below := []api.Contract{}
	for _, part := range c.Sub {
		below = append(below, copyOf(part))
	}
	c.Sub = append(below, api.Contract{Name: "spare"})[:len(below)]
	return c
}

func copyOfExpr(x api.Expr) api.Expr {
	below := []api.Expr{}
	for _, part := range x.Sub {
		below = append(below, copyOfExpr(part))
	}
	x.Sub = append(below, api.Expr{Name: "spare"})[:len(below)]
	return x
}

func copyOfEnv(v api.Env) api.Env {
	fixings := append(slices.Clone(v.Fixings), api.Fixing{Name: "spare"})
	choices := append(slices.Clone(v.Choices), api.Choice{Name: "spare"})
	return api.Env{Fixings: fixings[:len(v.Fixings)], Choices: choices[:len(v.Choices)]}
}

func copyOfFlows(l []api.Flow) []api.Flow {
	return append(slices.Clone(l), api.Flow{Ccy: "spare"})[:len(l)]
}

// whole writes down all memory of a contract, and of what is known, also behind the ends of lists.
func whole(c api.Contract, v api.Env) string {
	return string(wholeContract(nil, c)) + fmt.Sprint(v.Fixings[:cap(v.Fixings)], v.Choices[:cap(v.Choices)])
}

func wholeContract(text []byte, c api.Contract) []byte {
	text = fmt.Appendf(text, "%d %q %q %q %d %v %d", c.Kind, c.From, c.To, c.Name, c.Date, c.Dates[:cap(c.Dates)], len(c.Sub))
	text = wholeExpr(text, c.Expr)
	for _, part := range c.Sub[:cap(c.Sub)] {
		text = wholeContract(text, part)
	}
	return text
}

func wholeExpr(text []byte, x api.Expr) []byte {
	text = fmt.Appendf(text, "%d %s %q %d %d", x.Kind, x.Rat, x.Name, x.Date, len(x.Sub))
	for _, part := range x.Sub[:cap(x.Sub)] {
		text = wholeExpr(text, part)
	}
	return text
}
