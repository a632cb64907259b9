package meaning

import (
	"cmp"
	"slices"

	"novation/api"
)

// needed returns the known fixings that occur in an expression on a day. Layer 8 checks all that it is given for each value, which would take long for all that is known.
func (v evaluation) needed(x api.Expr, day int) api.Env {
	places := v.places(nil, x, day)
	slices.Sort(places)
	var few api.Env
	for _, i := range slices.Compact(places) {
		few.Fixings = append(few.Fixings, v.known.Fixings[i])
	}
	return few
}

// places appends to l the indices of the known fixings that occur in an expression on a day. Only fixings have names, so nothing is found for any other part.
func (v evaluation) places(l []int, x api.Expr, day int) []int {
	f := api.Fixing{Name: x.Name, Date: x.Date}
	if x.Kind == api.ExprNow {
		f.Date = day
	}
	if i, there := slices.BinarySearchFunc(v.known.Fixings, f, comparePlaces); there {
		l = append(l, i)
	}
	for _, part := range x.Sub {
		l = v.places(l, part, day)
	}
	return l
}

func comparePlaces(a, b api.Fixing) int {
	return cmp.Or(cmp.Compare(a.Name, b.Name), cmp.Compare(a.Date, b.Date))
}
