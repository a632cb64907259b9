package observable_test

import (
	"math/rand"
	"slices"
	"testing"

	"novation/api"
	"novation/observable"
)

// P8.3

// spared returns l in memory with room for more behind its end, which has something in it.
func spared[T any](l []T, spare T) []T {
	return append(append([]T{}, l...), spare, spare)[:len(l)]
}

var (
	spareFixing = api.Fixing{Name: "spare", Date: 1, Value: "99"}
	spareChoice = api.Choice{Party: "spare", Name: "spare", Date: 1, First: true}
)

func equal(a, b api.Env) bool {
	return slices.Equal(a.Fixings, b.Fixings) && slices.Equal(a.Choices, b.Choices)
}

// checkNew checks that a call gave w for v, which it did not change, and that they share no memory; before is v as it was.
func checkNew(t *testing.T, v, before, w, want api.Env) {
	t.Helper()
	if !equal(w, want) {
		t.Errorf("%s, not %s", short(w), short(want))
	}
	unchanged := func() bool {
		return equal(v, before) && v.Fixings[:cap(v.Fixings)][len(v.Fixings)] == spareFixing && v.Choices[:cap(v.Choices)][len(v.Choices)] == spareChoice
	}
	if !unchanged() {
		t.Errorf("%s became %s", short(before), short(v))
	}
	clear(w.Fixings[:cap(w.Fixings)])
	clear(w.Choices[:cap(w.Choices)])
	if !unchanged() {
		t.Errorf("%s shares memory with the result", short(before))
	}
}

func checkPut(t *testing.T, before api.Env, f api.Fixing, want api.Env, wantE api.Errno) {
	t.Helper()
	v := api.Env{Fixings: spared(before.Fixings, spareFixing), Choices: spared(before.Choices, spareChoice)}
	w, e := observable.Put(v, f)
	if e != wantE {
		t.Errorf("Put(%s, %v): %d, not %d", short(v), f, e, wantE)
	}
	if e == api.OK {
		if e := observable.CheckEnv(w); e != api.OK {
			t.Errorf("Put(%s, %v) is not valid: %d", short(v), f, e)
		}
		checkFind(t, w, f.Name, f.Date, f.Value, true)
	}
	checkNew(t, v, before, w, want)
}

func checkChoose(t *testing.T, before api.Env, c api.Choice, want api.Env, wantE api.Errno) {
	t.Helper()
	v := api.Env{Fixings: spared(before.Fixings, spareFixing), Choices: spared(before.Choices, spareChoice)}
	w, e := observable.Choose(v, c)
	if e != wantE {
		t.Errorf("Choose(%s, %v): %d, not %d", short(v), c, e, wantE)
	}
	if e == api.OK {
		if e := observable.CheckEnv(w); e != api.OK {
			t.Errorf("Choose(%s, %v) is not valid: %d", short(v), c, e)
		}
		checkChosen(t, w, c.Party, c.Name, c.Date, c.First)
	}
	checkNew(t, v, before, w, want)
}

func TestPutEverywhere(t *testing.T) {
	fixings, choices := fixingsOf(8), choicesOf(8)
	for i, f := range fixings {
		others := slices.Delete(slices.Clone(fixings), i, i+1)
		for _, c := range [][]api.Choice{nil, choices} {
			// In front, between and behind.
			checkPut(t, api.Env{Fixings: others, Choices: c}, f, api.Env{Fixings: fixings, Choices: c}, api.OK)
			// In place of itself, and of another value.
			checkPut(t, api.Env{Fixings: fixings, Choices: c}, f, api.Env{Fixings: fixings, Choices: c}, api.OK)
			changed := slices.Clone(fixings)
			changed[i].Value = "-17/19"
			checkPut(t, api.Env{Fixings: fixings, Choices: c}, changed[i], api.Env{Fixings: changed, Choices: c}, api.OK)
		}
	}
	checkPut(t, api.Env{}, fixings[0], api.Env{Fixings: fixings[:1]}, api.OK)
}

func TestChooseEverywhere(t *testing.T) {
	fixings, choices := fixingsOf(8), choicesOf(8)
	for i, c := range choices {
		others := slices.Delete(slices.Clone(choices), i, i+1)
		for _, f := range [][]api.Fixing{nil, fixings} {
			checkChoose(t, api.Env{Fixings: f, Choices: others}, c, api.Env{Fixings: f, Choices: choices}, api.OK)
			checkChoose(t, api.Env{Fixings: f, Choices: choices}, c, api.Env{Fixings: f, Choices: choices}, api.OK)
			changed := slices.Clone(choices)
			changed[i].First = !changed[i].First
			checkChoose(t, api.Env{Fixings: f, Choices: choices}, changed[i], api.Env{Fixings: f, Choices: changed}, api.OK)
		}
	}
	checkChoose(t, api.Env{}, choices[0], api.Env{Choices: choices[:1]}, api.OK)
}

// TestPutInAnyOrder puts and chooses everything, in any order and twice, and compares with what is in order.
func TestPutInAnyOrder(t *testing.T) {
	r := rand.New(rand.NewSource(3))
	l := places()
	var fixings []api.Fixing
	var choices []api.Choice
	for i, p := range l {
		if p.party == "B" {
			fixings = append(fixings, api.Fixing{Name: p.name, Date: p.date, Value: few[i%len(few)]})
		}
		choices = append(choices, api.Choice{Party: p.party, Name: p.name, Date: p.date, First: i%2 == 0})
	}
	for range 20 {
		var v api.Env
		var e api.Errno
		for range 2 {
			for _, i := range r.Perm(len(l)) {
				if v, e = observable.Choose(v, choices[i]); e != api.OK {
					t.Fatal(choices[i], e)
				}
				f := fixings[i%len(fixings)]
				if v, e = observable.Put(v, f); e != api.OK {
					t.Fatal(f, e)
				}
			}
			if want := (api.Env{Fixings: fixings, Choices: choices}); !equal(v, want) {
				t.Fatalf("%v, not %v", v, want)
			}
		}
	}
}

func TestPutMany(t *testing.T) {
	fixings, choices := fixingsOf(1001), choicesOf(1001)
	for _, i := range []int{0, 1, 500, 999, 1000} {
		f, others := fixings[i], slices.Delete(slices.Clone(fixings), i, i+1)
		checkPut(t, api.Env{Fixings: others}, f, api.Env{}, api.ErrFull)
		checkPut(t, api.Env{Fixings: others, Choices: choices[:1000]}, f, api.Env{}, api.ErrFull)
		c, more := choices[i], slices.Delete(slices.Clone(choices), i, i+1)
		checkChoose(t, api.Env{Choices: more}, c, api.Env{}, api.ErrFull)
		checkChoose(t, api.Env{Fixings: fixings[:1000], Choices: more}, c, api.Env{}, api.ErrFull)
		c.First = !c.First
		checkChoose(t, api.Env{Choices: more}, c, api.Env{}, api.ErrFull)
	}
	full := api.Env{Fixings: fixings[:1000], Choices: choices[:1000]}
	for _, i := range []int{0, 1, 500, 998, 999} {
		// One of the thousand is replaced, and so there are 999 others.
		changed := api.Env{Fixings: slices.Clone(full.Fixings), Choices: full.Choices}
		changed.Fixings[i].Value = "17/19"
		checkPut(t, full, changed.Fixings[i], changed, api.OK)
		changed = api.Env{Fixings: full.Fixings, Choices: slices.Clone(full.Choices)}
		changed.Choices[i].First = !changed.Choices[i].First
		checkChoose(t, full, changed.Choices[i], changed, api.OK)
		// The thousandth one.
		less := api.Env{Fixings: slices.Delete(slices.Clone(full.Fixings), i, i+1), Choices: full.Choices}
		checkPut(t, less, full.Fixings[i], full, api.OK)
		less = api.Env{Fixings: full.Fixings, Choices: slices.Delete(slices.Clone(full.Choices), i, i+1)}
		checkChoose(t, less, full.Choices[i], full, api.OK)
	}
	// The other list may be full.
	checkPut(t, api.Env{Choices: full.Choices}, fixings[0], api.Env{Fixings: fixings[:1], Choices: full.Choices}, api.OK)
	checkChoose(t, api.Env{Fixings: full.Fixings}, choices[0], api.Env{Fixings: full.Fixings, Choices: choices[:1]}, api.OK)
}

func TestPutWhatIsNotValid(t *testing.T) {
	full := api.Env{Fixings: fixingsOf(1000), Choices: choicesOf(1000)}
	for _, v := range []api.Env{{}, {Fixings: fixingsOf(5), Choices: choicesOf(5)}, full} {
		for _, name := range noNames {
			checkPut(t, v, api.Fixing{Name: name, Date: 1, Value: "1"}, api.Env{}, api.ErrArg)
			checkChoose(t, v, api.Choice{Party: name, Name: "a", Date: 1}, api.Env{}, api.ErrArg)
			checkChoose(t, v, api.Choice{Party: "a", Name: name, Date: 1, First: true}, api.Env{}, api.ErrArg)
		}
		for _, date := range noDays {
			checkPut(t, v, api.Fixing{Name: "a", Date: date, Value: "1"}, api.Env{}, api.ErrArg)
			checkChoose(t, v, api.Choice{Party: "a", Name: "a", Date: date}, api.Env{}, api.ErrArg)
		}
		// The name and the date come before the value, and this before the room.
		for a, e := range noRats() {
			checkPut(t, v, api.Fixing{Name: "new", Date: 1, Value: a}, api.Env{}, e)
			checkPut(t, v, api.Fixing{Name: "", Date: 1, Value: a}, api.Env{}, api.ErrArg)
			checkPut(t, v, api.Fixing{Name: "new", Date: -1, Value: a}, api.Env{}, api.ErrArg)
			if len(v.Fixings) > 0 {
				checkPut(t, v, api.Fixing{Name: v.Fixings[0].Name, Date: v.Fixings[0].Date, Value: a}, api.Env{}, e)
			}
		}
	}
	for _, date := range []int{0, api.MaxDate} {
		f, c := api.Fixing{Name: "a", Date: date, Value: "1"}, api.Choice{Party: "a", Name: "b", Date: date, First: true}
		checkPut(t, api.Env{}, f, api.Env{Fixings: []api.Fixing{f}}, api.OK)
		checkChoose(t, api.Env{}, c, api.Env{Choices: []api.Choice{c}}, api.OK)
	}
	for _, name := range names {
		f, c := api.Fixing{Name: name, Date: 1, Value: "1"}, api.Choice{Party: name, Name: name, Date: 1, First: true}
		checkPut(t, api.Env{}, f, api.Env{Fixings: []api.Fixing{f}}, api.OK)
		checkChoose(t, api.Env{}, c, api.Env{Choices: []api.Choice{c}}, api.OK)
	}
	for _, a := range rats {
		f := api.Fixing{Name: "a", Date: 1, Value: a}
		checkPut(t, api.Env{}, f, api.Env{Fixings: []api.Fixing{f}}, api.OK)
	}
}
