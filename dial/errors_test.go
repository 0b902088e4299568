package dial_test

import (
	"math"
	"slices"
	"testing"

	"gasworks/api"
	"gasworks/dial"
)

// wantError checks that all functions have an error for a house of a round.
func wantError(t *testing.T, name string, r api.Round, house int, e api.Errno) {
	t.Helper()
	wantPairs(t, name, r, house, e)
	wantGas(t, name, r, house, 10, 20, api.Span{}, e)
	wantGas(t, name, r, house, 20, 10, api.Span{}, e)
	wantSuspects(t, name, r, house, e)
	wantDue(t, name, r, house, 0, e)
}

// wantNotValid checks that a round is not valid, whatever else is asked of it.
func wantNotValid(t *testing.T, name string, r api.Round) {
	t.Helper()
	for _, house := range []int{math.MinInt, -1, 0, 1, 2, 8, math.MaxInt} {
		wantError(t, name, r, house, api.ErrArg)
		wantGas(t, name, r, house, -1, api.MaxHour+1, api.Span{}, api.ErrArg)
	}
}

// wantValid checks that no function refuses a round.
func wantValid(t *testing.T, name string, r api.Round) {
	t.Helper()
	_, e1 := dial.Pairs(r, 0)
	_, e2 := dial.Gas(r, 0, 0, 1)
	_, e3 := dial.Suspects(r, 0)
	_, e4 := dial.Due(r, 0)
	if slices.Contains([]api.Errno{e1, e2, e3, e4}, api.ErrArg) {
		t.Errorf("%s: the errors of %v are %d, %d, %d and %d", name, r, e1, e2, e3, e4)
	}
}

// A field is a number of a round: where it is in the round of the examples, and some numbers that it can and cannot be there.
type field struct {
	name       string
	at         func(r *api.Round) *int
	valid, not []int
}

func fields() []field {
	return []field{
		{"Digits", func(r *api.Round) *int { return &r.Dials[0].Digits }, []int{2, 3, 6}, []int{1, 0, -1, 7, 64}},
		{"Digits of the last dial", func(r *api.Round) *int { return &r.Dials[1].Digits }, []int{2, 6}, []int{1, 0, 7}},
		{"Lo", func(r *api.Round) *int { return &r.Dials[0].Rate.Lo }, []int{0, 7}, []int{-1, 8}},
		{"Hi", func(r *api.Round) *int { return &r.Dials[0].Rate.Hi }, []int{3, 10000}, []int{2, 10001}},
		{"Lo of the last dial", func(r *api.Round) *int { return &r.Dials[1].Rate.Lo }, []int{0, 20}, []int{-1, 21}},
		{"Hi of the last dial", func(r *api.Round) *int { return &r.Dials[1].Rate.Hi }, []int{0, 10000}, []int{-1, 10001}},
		{"House", func(r *api.Round) *int { return &r.Cards[0].House }, []int{0, 1}, []int{-1, 2, 8}},
		{"Hour", func(r *api.Round) *int { return &r.Cards[0].Hour }, []int{0, 1 << 20}, []int{-1, 1<<20 + 1}},
		{"Shows", func(r *api.Round) *int { return &r.Cards[0].Shows }, []int{0, 99}, []int{-1, 100}},
		{"House of the last card", func(r *api.Round) *int { return &r.Cards[4].House }, []int{0, 1}, []int{-1, 2}},
		{"Hour of the last card", func(r *api.Round) *int { return &r.Cards[4].Hour }, []int{0, 1 << 20}, []int{-1, 1<<20 + 1}},
		{"Shows of the last card", func(r *api.Round) *int { return &r.Cards[4].Shows }, []int{0, 99}, []int{-1, 100}},
	}
}

// TestFieldsBeyondTheirLimits sets each number to its limits, and beyond them.
func TestFieldsBeyondTheirLimits(t *testing.T) {
	for _, f := range fields() {
		for _, number := range f.valid {
			r := example()
			*f.at(&r) = number
			wantValid(t, f.name, r)
		}
		for _, number := range append(f.not, math.MinInt, math.MaxInt) {
			r := example()
			*f.at(&r) = number
			wantNotValid(t, f.name, r)
		}
	}
}

// TestShowsBelowTheTurn checks dials of all digits, each with what it can show at most.
func TestShowsBelowTheTurn(t *testing.T) {
	turn := 1
	for digits := 1; digits <= 6; digits++ {
		turn *= 10
		other := api.Dial{Digits: 7 - digits}
		for _, r := range []api.Round{
			{Dials: []api.Dial{{Digits: digits}, other}, Cards: []api.Card{card(1, turn-1), card(2, 0)}},
			{Dials: []api.Dial{{Digits: digits}, other}, Cards: []api.Card{card(1, 0), card(2, turn-1)}},
		} {
			wantValid(t, "less than a turn", r)
			r.Cards[0].Shows = turn
			wantNotValid(t, "a turn", r)
		}
	}
}

// TestDigitsWithoutCards checks dials of which no card tells that they are wrong.
func TestDigitsWithoutCards(t *testing.T) {
	for _, digits := range []int{1, 6} {
		wantValid(t, "digits", one(digits, span(3, 7)))
	}
	for _, digits := range []int{0, -1, 7, math.MinInt, math.MaxInt} {
		wantNotValid(t, "digits", one(digits, span(3, 7)))
		wantNotValid(t, "digits", one(digits, span(3, 7), card(1, 0)))
	}
}

func TestListsThatAreTooLong(t *testing.T) {
	d := api.Dial{Digits: 1}
	cards := make([]api.Card, 1000)
	wantValid(t, "8 dials", api.Round{Dials: slices.Repeat([]api.Dial{d}, 8)})
	wantNotValid(t, "9 dials", api.Round{Dials: slices.Repeat([]api.Dial{d}, 9)})
	wantNotValid(t, "very many dials", api.Round{Dials: slices.Repeat([]api.Dial{d}, 1000)})
	wantValid(t, "48 cards", one(1, span(0, 0), cards[:48]...))
	wantNotValid(t, "49 cards", one(1, span(0, 0), cards[:49]...))
	wantNotValid(t, "very many cards", one(1, span(0, 0), cards...))
	for _, l := range [][]api.Dial{nil, {}} {
		wantNotValid(t, "no dials", api.Round{Dials: l})
		wantNotValid(t, "no dials", api.Round{Dials: l, Cards: cards[:1]})
	}
}

// TestManyReadings checks a house with as many readings as there can be.
func TestManyReadings(t *testing.T) {
	r := one(1, span(7, 9))
	var want []api.Span
	for i := range api.MaxCards {
		r.Cards = append(r.Cards, card(i*3, i*25%10))
		want = append(want, span(25, 25))
	}
	wantPairs(t, "48 readings", r, 0, api.OK, want[1:]...)
	wantGas(t, "48 readings", r, 0, 1, 3*47, span(25*46+16, 25*46+18), api.OK)
	wantSuspects(t, "48 readings", r, 0, api.ErrNone)
	r.Cards[20].Shows = 3
	wantSuspects(t, "one is wrong", r, 0, api.OK, 57, 60)
	r.Cards[20].Shows = 5
	wantSuspects(t, "one is wrong", r, 0, api.OK, 60)
}

func TestEmptyLists(t *testing.T) {
	for _, l := range [][]api.Card{nil, {}} {
		r := one(2, span(3, 7))
		r.Cards = l
		wantPairs(t, "empty list", r, 0, api.OK)
		wantGas(t, "empty list", r, 0, 4, 6, span(6, 14), api.OK)
		wantSuspects(t, "empty list", r, 0, api.ErrNone)
		wantDue(t, "empty list", r, 0, 0, api.ErrNone)
	}
}

func TestHousesAndHoursThatAreNone(t *testing.T) {
	// The cards of the house 0 neither fit nor agree: what is none comes first.
	wrong := changed(withShows(3, 30), withCards(card(10, 96)))
	for _, r := range []api.Round{example(), wrong} {
		for _, house := range []int{-1, 2, 8, math.MinInt, math.MaxInt} {
			wantError(t, "no house", r, house, api.ErrRange)
		}
		for _, hour := range []int{-1, 1<<20 + 1, math.MinInt, math.MaxInt} {
			wantGas(t, "no hour", r, 0, hour, 10, api.Span{}, api.ErrRange)
			wantGas(t, "no hour", r, 0, 10, hour, api.Span{}, api.ErrRange)
			wantGas(t, "no hour", r, 0, hour, hour, api.Span{}, api.ErrRange)
		}
	}
}

// TestOrderOfErrors checks rounds with several errors.
func TestOrderOfErrors(t *testing.T) {
	twice := withCards(card(10, 96))
	for name, r := range map[string]api.Round{
		"they would fit without it": changed(twice),
		"they do not fit anyway":    changed(twice, withShows(3, 30)),
		"it sticks":                 changed(twice, sticks),
		"the two are all":           one(2, span(3, 7), card(10, 95), card(10, 96)),
		"one is there twice":        changed(withCards(card(10, 95)), twice, withCards(card(10, 95))),
		"the last hour":             changed(withCards(card(30, 14))),
	} {
		wantError(t, name, r, 0, api.ErrTwice)
		wantGas(t, name, r, 0, -1, 10, api.Span{}, api.ErrRange)
	}
	wantPairs(t, "of another house", changed(twice), 1, api.OK, span(4, 80))
	wantPairs(t, "the same hour in two houses", changed(withCards(card(5, 70), card(9, 90))), 0, api.OK, span(20, 20), span(5, 5), span(52, 52), span(68, 68))
}

// TestHoursInTheirOrder checks that hours that are not in order are told before readings that do not fit.
func TestHoursInTheirOrder(t *testing.T) {
	for _, r := range []api.Round{example(), changed(withShows(3, 30))} {
		wantGas(t, "not in order", r, 0, 12, 10, api.Span{}, api.ErrRange)
		wantGas(t, "not in order", r, 0, api.MaxHour, 0, api.Span{}, api.ErrRange)
	}
	wrong := changed(withShows(3, 30))
	wantGas(t, "they do not fit", wrong, 0, 10, 12, api.Span{}, api.ErrState)
	wantGas(t, "they do not fit elsewhere", wrong, 0, 0, 1, api.Span{}, api.ErrState)
	wantGas(t, "they do not fit, no hours", wrong, 0, 5, 5, api.Span{}, api.ErrState)
	wantGas(t, "others do not fit", wrong, 1, 5, 9, span(4, 80), api.OK)
}

// TestAnyArguments calls all functions with numbers of all sizes: none of them panics or runs on, none returns a result besides an error, and all refuse the same rounds.
func TestAnyArguments(t *testing.T) {
	some := []int{math.MinInt, -64, -1, 0, 1, 2, 3, 5, 6, 7, 8, 10, 20, 30, 47, 99, 100, 10000, 1 << 20, 1<<20 + 1, 1 << 40, math.MaxInt}
	d := newDice(7)
	valid := 0
	for range 5000 {
		r := example()
		all := fields()
		for range d.roll(4) {
			*all[d.roll(len(all))].at(&r) = some[d.roll(len(some))]
		}
		if d.roll(9) == 0 {
			r.Dials = slices.Repeat(r.Dials, d.roll(6))
		}
		if d.roll(9) == 0 {
			r.Cards = slices.Repeat(r.Cards, d.roll(12))
		}
		if callAll(t, r, d.roll(4)-1, some[d.roll(len(some))], some[d.roll(len(some))]) {
			valid++
		}
	}
	if valid < 1000 || valid > 4000 {
		t.Errorf("%d rounds were valid", valid)
	}
}

// callAll returns whether a round is valid.
func callAll(t *testing.T, r api.Round, house, from, to int) bool {
	t.Helper()
	l, e := dial.Pairs(r, house)
	s, e2 := dial.Gas(r, house, from, to)
	suspects, e3 := dial.Suspects(r, house)
	hour, e4 := dial.Due(r, house)
	if e != api.OK && len(l) != 0 || e2 != api.OK && s != (api.Span{}) || e3 != api.OK && len(suspects) != 0 || e4 != api.OK && hour != 0 {
		t.Errorf("besides errors: Pairs of %v, %d = %v, Gas = %v, Suspects = %v, Due = %d", r, house, l, s, suspects, hour)
	}
	first := func(e api.Errno) bool { return e == api.ErrArg || e == api.ErrTwice }
	for _, other := range []api.Errno{e2, e3, e4} {
		if (e == api.ErrArg) != (other == api.ErrArg) || first(e) != first(other) && other != api.ErrRange {
			t.Errorf("the errors of %v, %d are %d, %d, %d and %d", r, house, e, e2, e3, e4)
		}
	}
	if (e == api.OK) != (e3 == api.ErrNone) || (e == api.ErrState) != (e3 == api.OK) {
		t.Errorf("Pairs of %v, %d has the error %d, Suspects %d", r, house, e, e3)
	}
	return e != api.ErrArg
}
