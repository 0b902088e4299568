package dial_test

import (
	"slices"
	"testing"

	"gasworks/api"
	"gasworks/dial"
)

func span(lo, hi int) api.Span { return api.Span{Lo: lo, Hi: hi} }

// card returns a reading of the house 0.
func card(hour, shows int) api.Card { return api.Card{Hour: hour, Shows: shows} }

// example returns the round of the chapter's examples.
func example() api.Round {
	return api.Round{
		Dials: []api.Dial{{Digits: 2, Rate: span(3, 7)}, {Digits: 2, Rate: span(0, 20), Sticks: true}},
		Cards: []api.Card{card(30, 15), card(10, 95), {House: 1, Hour: 5, Shows: 40}, card(20, 47), {House: 1, Hour: 9, Shows: 44}},
	}
}

// changed returns the round of the examples after changes.
func changed(changes ...func(r *api.Round)) api.Round {
	r := example()
	for _, change := range changes {
		change(&r)
	}
	return r
}

func withShows(index, shows int) func(r *api.Round) {
	return func(r *api.Round) { r.Cards[index].Shows = shows }
}

func withCards(l ...api.Card) func(r *api.Round) {
	return func(r *api.Round) { r.Cards = append(r.Cards, l...) }
}

func sticks(r *api.Round) { r.Dials[0].Sticks = true }

// one returns a round of one house.
func one(digits int, rate api.Span, l ...api.Card) api.Round {
	return api.Round{Dials: []api.Dial{{Digits: digits, Rate: rate}}, Cards: l}
}

// sticking returns a round of one house whose dial sticks.
func sticking(digits int, rate api.Span, l ...api.Card) api.Round {
	r := one(digits, rate, l...)
	r.Dials[0].Sticks = true
	return r
}

func wantPairs(t *testing.T, name string, r api.Round, house int, e api.Errno, want ...api.Span) {
	t.Helper()
	if l, e2 := dial.Pairs(r, house); !slices.Equal(l, want) || e2 != e {
		t.Errorf("%s: Pairs of %v, %d = %v, error %d; want %v, error %d", name, r, house, l, e2, want, e)
	}
}

func wantGas(t *testing.T, name string, r api.Round, house, from, to int, want api.Span, e api.Errno) {
	t.Helper()
	if s, e2 := dial.Gas(r, house, from, to); s != want || e2 != e {
		t.Errorf("%s: Gas of %v, %d between %d and %d = %v, error %d; want %v, error %d", name, r, house, from, to, s, e2, want, e)
	}
}

func wantSuspects(t *testing.T, name string, r api.Round, house int, e api.Errno, want ...int) {
	t.Helper()
	if l, e2 := dial.Suspects(r, house); !slices.Equal(l, want) || e2 != e {
		t.Errorf("%s: Suspects of %v, %d = %v, error %d; want %v, error %d", name, r, house, l, e2, want, e)
	}
}

func wantDue(t *testing.T, name string, r api.Round, house, want int, e api.Errno) {
	t.Helper()
	if hour, e2 := dial.Due(r, house); hour != want || e2 != e {
		t.Errorf("%s: Due of %v, %d = %d, error %d; want %d, error %d", name, r, house, hour, e2, want, e)
	}
}

func TestExamples(t *testing.T) {
	r := example()
	wantPairs(t, "example", r, 0, api.OK, span(52, 52), span(68, 68))
	wantPairs(t, "example", r, 1, api.OK, span(4, 80))
	wantGas(t, "example", r, 0, 10, 30, span(120, 120), api.OK)
	wantGas(t, "example", r, 0, 10, 12, span(6, 14), api.OK)
	wantGas(t, "example", r, 0, 5, 10, span(15, 35), api.OK)
	wantGas(t, "example", r, 0, 15, 25, span(50, 70), api.OK)
	wantSuspects(t, "example", r, 0, api.ErrNone)
	wantSuspects(t, "example", r, 1, api.ErrNone)
	wantDue(t, "example", r, 0, 54, api.OK)
	wantDue(t, "example", r, 1, 0, api.ErrState)
	wrong := changed(withShows(3, 30))
	wantPairs(t, "the fourth card changed", wrong, 0, api.ErrState)
	wantSuspects(t, "the fourth card changed", wrong, 0, api.OK, 20, 30)
	wantPairs(t, "the fourth card changed", wrong, 1, api.OK, span(4, 80))
}

func TestPairs(t *testing.T) {
	wantPairs(t, "no card", one(3, span(1, 2)), 0, api.OK)
	wantPairs(t, "one card", one(3, span(1, 2), card(7, 999)), 0, api.OK)
	wantPairs(t, "cards of others only", changed(func(r *api.Round) { r.Cards = r.Cards[2:3] }), 0, api.OK)
	wantPairs(t, "nothing shown, and nothing possible", one(1, span(0, 0), card(0, 4), card(api.MaxHour, 4)), 0, api.OK, span(0, 0))
	wantPairs(t, "something shown, and nothing possible", one(1, span(0, 0), card(0, 4), card(api.MaxHour, 5)), 0, api.ErrState)
	wantPairs(t, "the same shown, after no turn or some", one(1, span(0, 10), card(0, 4), card(3, 4)), 0, api.OK, span(0, 30))
	wantPairs(t, "the same shown, after one turn", one(1, span(1, 9), card(0, 4), card(2, 4)), 0, api.OK, span(10, 10))
	wantPairs(t, "the same shown, which cannot be", one(1, span(1, 9), card(0, 4), card(1, 4)), 0, api.ErrState)
	wantPairs(t, "less shown, after a turn at least", one(1, span(0, 9), card(0, 9), card(1, 0)), 0, api.OK, span(1, 1))
	wantPairs(t, "less shown, and too much of it", one(1, span(0, 8), card(0, 1), card(1, 0)), 0, api.ErrState)
	wantPairs(t, "between two numbers that fit", one(1, span(4, 12), card(0, 0), card(1, 3)), 0, api.ErrState)
	wantPairs(t, "ends that fit", one(1, span(3, 13), card(0, 0), card(1, 3)), 0, api.OK, span(3, 13))
	wantPairs(t, "ends that fail by one", one(1, span(4, 22), card(0, 0), card(1, 3)), 0, api.OK, span(13, 13))
	wantPairs(t, "six digits", one(6, span(0, 10000), card(0, 999_999), card(301, 0)), 0, api.OK, span(1, 3_000_001))
	wantPairs(t, "all hours", one(1, span(0, 10000), card(0, 0), card(api.MaxHour, 1)), 0, api.OK, span(1, api.MaxHour*10000-9))
	wantPairs(t, "no span is empty, but one is", one(1, span(0, 3), card(0, 0), card(1, 3), card(2, 7), card(3, 7)), 0, api.ErrState)
}

func TestPairsOfDialsThatStick(t *testing.T) {
	wantPairs(t, "sticks", changed(sticks), 0, api.OK, span(52, 70), span(68, 70))
	wantPairs(t, "less than the least", sticking(2, span(30, 40), card(0, 0), card(1, 3)), 0, api.OK, span(30, 40))
	wantPairs(t, "the least", sticking(2, span(30, 40), card(0, 0), card(1, 30)), 0, api.OK, span(30, 40))
	wantPairs(t, "the greatest", sticking(2, span(30, 40), card(0, 99), card(1, 39)), 0, api.OK, span(40, 40))
	wantPairs(t, "more than the greatest", sticking(2, span(30, 40), card(0, 99), card(1, 40)), 0, api.ErrState)
	wantPairs(t, "the same", sticking(2, span(0, 500), card(0, 7), card(1, 7)), 0, api.OK, span(0, 500))
	wantPairs(t, "less", sticking(2, span(0, 500), card(0, 7), card(1, 6)), 0, api.OK, span(99, 500))
}

func TestCardsTwice(t *testing.T) {
	wantPairs(t, "twice", changed(withCards(card(10, 95), card(10, 95), card(30, 15))), 0, api.OK, span(52, 52), span(68, 68))
	wantSuspects(t, "a wrong one twice", changed(withShows(3, 0), withCards(card(20, 0))), 0, api.OK, 20)
	wantSuspects(t, "all twice", changed(withShows(3, 30), withCards(card(30, 15), card(20, 30), card(10, 95))), 0, api.OK, 20, 30)
	wantDue(t, "the last one twice", changed(withCards(card(30, 15))), 0, 54, api.OK)
}

func TestGas(t *testing.T) {
	r := example()
	for _, hour := range []int{0, 10, 12, 20, 30, api.MaxHour} {
		wantGas(t, "no hours", r, 0, hour, hour, span(0, 0), api.OK)
	}
	wantGas(t, "before the first reading", r, 0, 0, 10, span(30, 70), api.OK)
	wantGas(t, "long before it", r, 0, 2, 4, span(6, 14), api.OK)
	wantGas(t, "after the last reading", r, 0, 30, 40, span(30, 70), api.OK)
	wantGas(t, "long after it", r, 0, 100, 101, span(3, 7), api.OK)
	wantGas(t, "up to the last hour", r, 0, 30, api.MaxHour, span(3*(api.MaxHour-30), 7*(api.MaxHour-30)), api.OK)
	wantGas(t, "all hours", r, 0, 0, api.MaxHour, span(120+3*(api.MaxHour-20), 120+7*(api.MaxHour-20)), api.OK)
	wantGas(t, "all but the last hour of a pair", r, 0, 10, 19, span(45, 49), api.OK)
	wantGas(t, "all but the first hour of a pair", r, 0, 11, 20, span(45, 49), api.OK)
	wantGas(t, "inside of a pair", r, 0, 11, 19, span(38, 46), api.OK)
	wantGas(t, "across a pair and more", r, 0, 9, 31, span(126, 134), api.OK)
	wantGas(t, "a pair of others", r, 1, 5, 8, span(0, 60), api.OK)
	wantGas(t, "no cards", one(1, span(3, 7)), 0, 1, 3, span(6, 14), api.OK)
	wantGas(t, "one card", one(1, span(3, 7), card(2, 0)), 0, 1, 3, span(6, 14), api.OK)
	wantGas(t, "much gas", one(6, span(10000, 10000)), 0, 0, api.MaxHour, span(10000<<20, 10000<<20), api.OK)
	wantGas(t, "several turns", one(1, span(0, 10), card(0, 0), card(3, 4)), 0, 0, 2, span(0, 20), api.OK)
	wantGas(t, "sticks", sticking(2, span(0, 20), card(5, 40), card(9, 10)), 0, 5, 8, span(50, 60), api.OK)
}

func TestSuspects(t *testing.T) {
	wantSuspects(t, "no card", one(1, span(3, 7)), 0, api.ErrNone)
	wantSuspects(t, "one card", one(1, span(3, 7), card(5, 5)), 0, api.ErrNone)
	wantSuspects(t, "one of two", one(2, span(3, 7), card(6, 9), card(5, 5)), 0, api.ErrNone)
	wantSuspects(t, "each of two", one(2, span(3, 7), card(6, 13), card(5, 5)), 0, api.OK, 5, 6)
	wantSuspects(t, "the first one", one(2, span(3, 7), card(0, 50), card(1, 4), card(2, 8), card(3, 12)), 0, api.OK, 0)
	wantSuspects(t, "the last one", one(2, span(3, 7), card(0, 0), card(1, 4), card(2, 8), card(3, 50)), 0, api.OK, 3)
	wantSuspects(t, "two that are apart", one(2, span(3, 7), card(0, 0), card(1, 50), card(2, 8), card(3, 60), card(4, 16)), 0, api.OK)
	wantSuspects(t, "two side by side", one(2, span(3, 7), card(0, 0), card(1, 4), card(2, 50), card(3, 60), card(4, 16)), 0, api.OK)
	wantSuspects(t, "sticks", changed(withShows(4, 39)), 1, api.OK, 5, 9)
	wantSuspects(t, "sticks, and fits", changed(sticks), 0, api.ErrNone)
}

func TestDue(t *testing.T) {
	wantDue(t, "nothing can go", one(1, span(0, 0), card(5, 5)), 0, api.MaxHour, api.OK)
	wantDue(t, "no doubt", one(1, span(10000, 10000), card(5, 5)), 0, api.MaxHour, api.OK)
	wantDue(t, "nine hours", one(1, span(10, 11), card(5, 5)), 0, 14, api.OK)
	wantDue(t, "four hours", one(1, span(10, 12), card(5, 5)), 0, 9, api.OK)
	wantDue(t, "one hour", one(1, span(0, 9), card(5, 5)), 0, 6, api.OK)
	wantDue(t, "not an hour", one(1, span(0, 10), card(5, 5)), 0, 5, api.OK)
	wantDue(t, "six digits", one(6, span(0, 10000), card(5, 5)), 0, 104, api.OK)
	wantDue(t, "six digits", one(6, span(4, 5), card(5, 5)), 0, 1_000_004, api.OK)
	wantDue(t, "up to the last hour", one(6, span(4, 5), card(api.MaxHour-999_999, 5)), 0, api.MaxHour, api.OK)
	wantDue(t, "beyond the last hour", one(6, span(4, 5), card(api.MaxHour-999_998, 5)), 0, api.MaxHour, api.OK)
	wantDue(t, "in the last hour", one(1, span(0, 9), card(api.MaxHour, 5)), 0, api.MaxHour, api.OK)
	wantDue(t, "the last one of several", one(1, span(0, 1), card(7, 5), card(20, 9), card(3, 5)), 0, 29, api.OK)
	wantDue(t, "readings that do not fit", changed(withShows(3, 30)), 0, 54, api.OK)
	wantDue(t, "no card", one(1, span(0, 1)), 0, 0, api.ErrNone)
	wantDue(t, "sticks", sticking(1, span(0, 0), card(5, 5)), 0, 0, api.ErrState)
	wantDue(t, "sticks, and no card", sticking(1, span(0, 1)), 0, 0, api.ErrNone)
}
