package observable

import (
	"cmp"
	"slices"

	"novation/api"
	"novation/rational"
)

// hasPlace tells whether f has a name and a date by which it can be found.
func hasPlace(f api.Fixing) bool {
	return Name(f.Name) && isDay(f.Date)
}

func isFixing(f api.Fixing) bool {
	return hasPlace(f) && rational.Check(f.Value) == api.OK
}

func isChoice(c api.Choice) bool {
	return Name(c.Party) && Name(c.Name) && isDay(c.Date)
}

func compareFixings(a, b api.Fixing) int {
	return cmp.Or(cmp.Compare(a.Name, b.Name), cmp.Compare(a.Date, b.Date))
}

func compareChoices(a, b api.Choice) int {
	return cmp.Or(cmp.Compare(a.Party, b.Party), cmp.Compare(a.Name, b.Name), cmp.Compare(a.Date, b.Date))
}

// first returns the first known thing for which is holds, and whether there is one.
func first[T any](l []T, is func(T) bool) (found T, there bool) {
	for _, thing := range l {
		if is(thing) {
			return thing, true
		}
	}
	return found, false
}

// inOrder tells whether known things are valid and strictly increasing.
func inOrder[T any](l []T, valid func(T) bool, compare func(a, b T) int) bool {
	for i, thing := range l {
		if !valid(thing) || i > 0 && compare(l[i-1], thing) >= 0 {
			return false
		}
	}
	return true
}

// placed returns known things that are in order, with thing instead of an equal one, or ErrFull if there are MaxTable other ones.
func placed[T any](l []T, thing T, compare func(a, b T) int) ([]T, api.Errno) {
	i, there := slices.BinarySearchFunc(l, thing, compare)
	behind := l[i:]
	if there {
		behind = l[i+1:]
	}
	if i+len(behind) >= api.MaxTable {
		return nil, api.ErrFull
	}
	return slices.Concat(l[:i], []T{thing}, behind), api.OK
}
