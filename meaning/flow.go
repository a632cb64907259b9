package meaning

import (
	"strings"

	"novation/api"
	"novation/observable"
	"novation/rational"
)

// payment returns the cash flow of an amount that from pays to to; a negative one is paid the other way.
func payment(day int, from, to, ccy string, amount api.Rat) []api.Flow {
	if amount == "0" {
		return nil
	}
	if isNegative(amount) {
		from, to, amount = to, from, amount[1:]
	}
	return []api.Flow{{Date: day, From: from, To: to, Ccy: ccy, Amount: amount}}
}

func isNegative(a api.Rat) bool {
	return strings.HasPrefix(string(a), "-")
}

func isFlow(f api.Flow) bool {
	return f.Date >= 0 && f.Date <= api.MaxDate && observable.Name(f.From) && observable.Name(f.To) && f.From != f.To && observable.Name(f.Ccy) && isPositive(f.Amount)
}

func isPositive(a api.Rat) bool {
	return a != "0" && !isNegative(a) && rational.Check(a) == api.OK
}

func isEarlier(f, than api.Flow) bool {
	return f.Date < than.Date
}
