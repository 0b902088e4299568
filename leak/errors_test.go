package leak_test

import (
	"math"
	"slices"
	"testing"

	"gasworks/api"
	"gasworks/leak"
)

// wantNotValid checks that a search is not valid, whatever else is asked of it.
func wantNotValid(t *testing.T, name string, s api.Search) {
	t.Helper()
	wantSuspects(t, name, s, 0, api.ErrArg)
	for _, main := range []int{math.MinInt, -1, 0, 3, 5, 6, 12, 13, math.MaxInt} {
		wantNotAgainst(t, name, s, main, api.ErrArg)
	}
	wantNext(t, name, s, 0, 0, api.ErrArg)
	wantFewest(t, name, s, 0, 0, api.ErrArg)
}

// wantValid checks that no function refuses a search.
func wantValid(t *testing.T, name string, s api.Search) {
	t.Helper()
	_, e1 := leak.Suspects(s)
	_, e2 := leak.Against(s, 0)
	_, _, e3 := leak.Next(s)
	_, _, e4 := leak.Fewest(s)
	if e1 == api.ErrArg || e2 != api.OK || e3 == api.ErrArg || e4 == api.ErrArg {
		t.Errorf("%s: the errors of %v are %d, %d, %d and %d", name, s, e1, e2, e3, e4)
	}
}

// A field is a number of a search: where it is in the search of the examples, and some numbers that it can and cannot be there.
type field struct {
	name       string
	at         func(s *api.Search) *int
	valid, not []int
}

func fields() []field {
	return []field{
		{"Mains", func(s *api.Search) *int { return &s.Mains }, []int{5, 6, 12}, []int{4, 1, 0, -1, 13, 64}},
		{"Wrong", func(s *api.Search) *int { return &s.Wrong }, []int{0, 1, 3}, []int{-1, 4}},
		{"Surely of a clue", func(s *api.Search) *int { return &s.Clues[0].Surely }, []int{0, 6, 16, 30}, []int{1, 32, 31, 64, -1, 1 << 12}},
		{"Can of a clue", func(s *api.Search) *int { return &s.Clues[0].Can }, []int{6, 7, 63}, []int{0, 2, 4, 70, 64, -1, 1<<12 | 6}},
		{"Surely of a clue without gas", func(s *api.Search) *int { return &s.Clues[1].Surely }, []int{0, 7}, []int{8, 15, -1, 64}},
		{"Can of the last clue", func(s *api.Search) *int { return &s.Clues[1].Can }, []int{2, 63}, []int{0, 1, 127, -1}},
		{"Surely of a hole", func(s *api.Search) *int { return &s.Holes[0].Surely }, []int{0, 4}, []int{1, 8, -1, 64}},
		{"Can of a hole", func(s *api.Search) *int { return &s.Holes[1].Can }, []int{12, 63}, []int{0, 4, 8, 76, -1, -64}},
		{"Surely of the last hole", func(s *api.Search) *int { return &s.Holes[2].Surely }, []int{0, 8}, []int{4, 12, -1}},
		{"Can of the last hole", func(s *api.Search) *int { return &s.Holes[2].Can }, []int{0, 63}, []int{64, 127, -1}},
	}
}

// TestFieldsBeyondTheirLimits sets each number to its limits, and beyond them.
func TestFieldsBeyondTheirLimits(t *testing.T) {
	for _, f := range fields() {
		for _, number := range f.valid {
			s := example()
			*f.at(&s) = number
			wantValid(t, f.name, s)
		}
		for _, number := range append(f.not, math.MinInt, math.MaxInt) {
			s := example()
			*f.at(&s) = number
			wantNotValid(t, f.name, s)
		}
	}
}

func TestListsThatAreTooLong(t *testing.T) {
	none := make([]api.Clue, 1000)
	wantValid(t, "20 clues", changed(withClues(none[:18]...)))
	wantNotValid(t, "21 clues", changed(withClues(none[:19]...)))
	wantNotValid(t, "very many clues", changed(withClues(none...)))
	wantValid(t, "12 holes", changed(withHoles(none[:12]...)))
	wantNotValid(t, "13 holes", changed(withHoles(none[:13]...)))
	wantNotValid(t, "very many holes", changed(withHoles(none...)))
	wantNotValid(t, "nothing", api.Search{})
}

func TestEmptyLists(t *testing.T) {
	for _, l := range [][]api.Clue{nil, {}} {
		s := api.Search{Mains: 2, Clues: l, Holes: l}
		wantSuspects(t, "empty lists", s, 3, api.OK)
		wantAgainst(t, "empty lists", s, 1)
		wantNext(t, "empty lists", s, 0, 0, api.ErrRange)
		wantFewest(t, "empty lists", s, 0, 0, api.ErrLong)
	}
}

func TestMainsThatAreNone(t *testing.T) {
	for _, main := range []int{-1, 6, 12, 64, math.MinInt, math.MaxInt} {
		wantNotAgainst(t, "no main", example(), main, api.ErrRange)
	}
	wantNotAgainst(t, "no main", fresh(12, 0), 12, api.ErrRange)
	wantNotAgainst(t, "no main", fresh(1, 0), 1, api.ErrRange)
	wantAgainst(t, "the last main", fresh(12, 0), 11)
	wantAgainst(t, "no main is suspect", changed(withClues(gas(0, 0))), 0, 0, 2)
}

// TestOrderOfErrors checks searches with and without holes of which nothing is left to be found.
func TestOrderOfErrors(t *testing.T) {
	for _, holes := range [][]api.Clue{nil, {at(2)}, {at(2), at(3)}} {
		s := changed(withHoles(holes...), withClues(gas(0, 0)))
		wantSuspects(t, "no main is suspect", s, 0, api.ErrNone)
		wantNext(t, "no main is suspect", s, 0, 0, api.ErrNone)
		wantFewest(t, "no main is suspect", s, 0, 0, api.ErrNone)
		s = changed(withHoles(holes...), withClues(gas(0, set(3))))
		wantSuspects(t, "the leak is known", s, set(3), api.OK)
		wantNext(t, "the leak is known", s, 0, 0, api.ErrState)
		wantFewest(t, "the leak is known", s, 0, 0, api.ErrState)
		s = fresh(1, 3, noGas(0, 0), noGas(0, 0))
		wantNext(t, "one main", s, 0, 0, api.ErrState)
		wantFewest(t, "one main", s, 0, 0, api.ErrState)
	}
}

// TestAnyArguments calls all functions with numbers of all sizes: none of them panics or runs on, none returns a result besides an error, and all refuse the same searches.
func TestAnyArguments(t *testing.T) {
	some := []int{math.MinInt, -64, -1, 0, 1, 2, 3, 4, 5, 6, 8, 12, 13, 30, 63, 64, 1<<12 - 1, 1 << 12, 1 << 40, math.MaxInt}
	d := newDice(7)
	valid := 0
	for range 5000 {
		s := example()
		all := fields()
		for range d.roll(4) {
			*all[d.roll(len(all))].at(&s) = some[d.roll(len(some))]
		}
		if d.roll(9) == 0 {
			s.Clues = slices.Repeat(s.Clues, d.roll(15))
		}
		if d.roll(9) == 0 {
			s.Holes = slices.Repeat(s.Holes, d.roll(6))
		}
		if callAll(t, s, some[d.roll(len(some))]) {
			valid++
		}
	}
	if valid < 1000 || valid > 4000 {
		t.Errorf("%d searches were valid", valid)
	}
}

// callAll returns whether a search is valid.
func callAll(t *testing.T, s api.Search, main int) bool {
	t.Helper()
	set, e := leak.Suspects(s)
	l, e2 := leak.Against(s, main)
	if (set == 0) != (e != api.OK) || e2 != api.OK && len(l) != 0 || (e == api.ErrArg) != (e2 == api.ErrArg) {
		t.Errorf("Suspects of %v = %d, error %d; Against %d = %v, error %d", s, set, e, main, l, e2)
	}
	hole, left, e2 := leak.Next(s)
	if e2 != api.OK && (hole != 0 || left != 0) || e2 == api.OK && (hole < 0 || hole >= len(s.Holes)) || (e == api.ErrArg) != (e2 == api.ErrArg) {
		t.Errorf("Next of %v = %d, %d, error %d; Suspects has the error %d", s, hole, left, e2, e)
	}
	hole, holes, e3 := leak.Fewest(s)
	if e3 != api.OK && (hole != 0 || holes != 0) || e3 == api.OK && (hole < 0 || hole >= len(s.Holes) || holes < 1 || holes > api.MaxBars) || (e == api.ErrArg) != (e3 == api.ErrArg) {
		t.Errorf("Fewest of %v = %d, %d, error %d; Suspects has the error %d", s, hole, holes, e3, e)
	}
	return e != api.ErrArg
}
