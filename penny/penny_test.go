package penny_test

import (
	"slices"
	"testing"

	"gasworks/api"
	"gasworks/penny"
)

func span(lo, hi int) api.Span { return api.Span{Lo: lo, Hi: hi} }

func mark(hour, used int) api.Mark { return api.Mark{Hour: hour, Used: used} }

// meter returns the slot meter of the chapter's examples, with other marks.
func meter(marks ...api.Mark) api.Slot {
	return api.Slot{
		Start: 5, Hold: 60, Coins: 6, Now: 100,
		Tariffs: []api.Tariff{{Feet: 25}, {From: 50, Feet: 20}},
		Marks:   marks,
	}
}

// example returns the slot meter of the chapter's examples, with some marks more.
func example(more ...api.Mark) api.Slot {
	return meter(append([]api.Mark{mark(40, 40), mark(80, 100)}, more...)...)
}

// one returns a slot meter with one tariff.
func one(feet, hold, start, coins, now int, marks ...api.Mark) api.Slot {
	return api.Slot{Start: start, Hold: hold, Coins: coins, Now: now, Tariffs: []api.Tariff{{Feet: feet}}, Marks: marks}
}

func wantPlay(t *testing.T, name string, s api.Slot, hours []int, bought int, left api.Span) {
	t.Helper()
	if b, l, hour, e := penny.Play(s, hours); b != bought || l != left || hour != s.Now || e != api.OK {
		t.Errorf("%s: Play of %v, %v = %d, %v, %d, error %d; want %d, %v, %d", name, s, hours, b, l, hour, e, bought, left, s.Now)
	}
}

// wantEnd checks that Play ends with an error, at an hour if it is that of a mark.
func wantEnd(t *testing.T, name string, s api.Slot, hours []int, hour int, e api.Errno) {
	t.Helper()
	if b, l, hour2, e2 := penny.Play(s, hours); b != 0 || l != (api.Span{}) || hour2 != hour || e2 != e {
		t.Errorf("%s: Play of %v, %v = %d, %v, %d, error %d; want error %d at %d", name, s, hours, b, l, hour2, e2, e, hour)
	}
}

func wantSpans(t *testing.T, name string, s api.Slot, bought, left api.Span, coins ...api.Span) {
	t.Helper()
	if l, e := penny.Coins(s); !slices.Equal(l, coins) || e != api.OK {
		t.Errorf("%s: Coins of %v = %v, error %d; want %v", name, s, l, e, coins)
	}
	if b, e := penny.Bought(s); b != bought || e != api.OK {
		t.Errorf("%s: Bought of %v = %v, error %d; want %v", name, s, b, e, bought)
	}
	if l, e := penny.Left(s); l != left || e != api.OK {
		t.Errorf("%s: Left of %v = %v, error %d; want %v", name, s, l, e, left)
	}
}

// wantNone checks that all functions but Play have an error.
func wantNone(t *testing.T, name string, s api.Slot, e api.Errno) {
	t.Helper()
	if l, e2 := penny.Coins(s); len(l) != 0 || e2 != e {
		t.Errorf("%s: Coins of %v = %v, error %d; want error %d", name, s, l, e2, e)
	}
	if b, e2 := penny.Bought(s); b != (api.Span{}) || e2 != e {
		t.Errorf("%s: Bought of %v = %v, error %d; want error %d", name, s, b, e2, e)
	}
	if l, e2 := penny.Left(s); l != (api.Span{}) || e2 != e {
		t.Errorf("%s: Left of %v = %v, error %d; want error %d", name, s, l, e2, e)
	}
}

func TestExamples(t *testing.T) {
	wantPlay(t, "example", example(), []int{10, 20, 30, 60, 70, 90}, 135, span(0, 40))
	wantEnd(t, "too many at first", example(), []int{10, 20, 30, 35, 60, 90}, 40, api.ErrFull)
	wantEnd(t, "too few at first", example(), []int{10, 60, 60, 60, 60, 60}, 40, api.ErrShort)
	wantSpans(t, "example", example(), span(130, 150), span(0, 55), span(2, 6), span(0, 4))
	wantSpans(t, "a mark more", example(mark(100, 150)), span(145, 150), span(0, 5), span(5, 6), span(0, 1))
	wantNone(t, "a wrong mark more", example(mark(100, 160)), api.ErrState)
}

// TestPricesOfTheirHours checks that a tariff is in force from its hour on.
func TestPricesOfTheirHours(t *testing.T) {
	s := one(7, 100, 0, 1, 30)
	s.Tariffs = []api.Tariff{{Feet: 7}, {From: 10, Feet: 30}, {From: 11, Feet: 5}, {From: 30, Feet: 11}}
	for hour, feet := range map[int]int{0: 7, 1: 7, 9: 7, 10: 30, 11: 5, 12: 5, 29: 5, 30: 11} {
		wantPlay(t, "one penny", s, []int{hour}, feet, span(0, feet))
	}
	s.Coins = 5
	wantPlay(t, "some pennies", s, []int{30, 0, 10, 11, 9}, 60, span(0, 60))
	wantPlay(t, "more than it holds", s, []int{10, 10, 10, 10, 10}, 150, span(0, 100))
}

// TestPenniesOfTheHourOfAMark checks that the pennies of its hour count at a mark, and later ones do not.
func TestPenniesOfTheHourOfAMark(t *testing.T) {
	s := one(10, 10, 0, 2, 50, mark(20, 10))
	wantPlay(t, "in its hour", s, []int{20, 21}, 20, span(0, 10))
	wantPlay(t, "both in its hour", s, []int{20, 20}, 20, span(0, 10))
	wantEnd(t, "an hour later", s, []int{21, 21}, 20, api.ErrShort)
	s.Marks[0] = mark(20, 9)
	wantPlay(t, "one later", s, []int{21, 20}, 20, span(0, 10))
	wantEnd(t, "one too many", s, []int{20, 20}, 20, api.ErrFull)
}

// TestEndsOfPlay checks marks that can just be, or just not, and which of several ends it.
func TestEndsOfPlay(t *testing.T) {
	hours := []int{10, 20, 30, 60, 70, 90}
	for used, want := range map[int]int{80: 60, 100: 40, 139: 1, 140: 0} {
		wantPlay(t, "a mark in the last hour", meter(mark(100, used)), hours, 135, span(want, want))
	}
	wantEnd(t, "too little used", meter(mark(100, 79)), hours, 100, api.ErrFull)
	wantEnd(t, "too much used", meter(mark(100, 141)), hours, 100, api.ErrShort)
	wantPlay(t, "a mark in the hour before the last", meter(mark(99, 80)), hours, 135, span(0, 60))
	wantPlay(t, "a mark in the hour before the last", meter(mark(99, 139)), hours, 135, span(0, 1))
	wantPlay(t, "nothing known", meter(), hours, 135, span(0, 60))
	wantPlay(t, "all used in the hour 0", meter(mark(0, 5)), hours, 135, span(0, 60))
	wantEnd(t, "more used in the hour 0 than there was", meter(mark(0, 6)), hours, 0, api.ErrShort)
	wantEnd(t, "the later mark is named first", meter(mark(70, 79), mark(5, 6)), hours, 5, api.ErrShort)
	wantEnd(t, "a mark of each error", meter(mark(70, 500), mark(30, 19)), hours, 30, api.ErrFull)
	wantEnd(t, "both at the same price", meter(mark(45, 81), mark(35, 19)), hours, 35, api.ErrFull)
	wantEnd(t, "the first one can be", meter(mark(90, 79), mark(30, 79)), hours, 90, api.ErrFull)
}

func TestPlayWithoutPennies(t *testing.T) {
	for _, hours := range [][]int{nil, {}} {
		wantPlay(t, "no pennies", one(3, 10, 4, 0, 0), hours, 0, span(0, 4))
		wantPlay(t, "no pennies, a full meter", one(3, 10, 10, 0, 9, mark(8, 0)), hours, 0, span(0, 10))
		wantPlay(t, "no pennies, a mark", one(3, 10, 4, 0, 0, mark(0, 3)), hours, 0, span(1, 1))
		wantEnd(t, "no pennies, and used", one(3, 10, 4, 0, 0, mark(0, 5)), hours, 0, api.ErrShort)
	}
}

// TestNothingKnown checks slot meters without marks.
func TestNothingKnown(t *testing.T) {
	wantSpans(t, "no marks", meter(), span(120, 150), span(0, 60), span(0, 6), span(0, 6))
	s := meter()
	s.Coins = 0
	wantSpans(t, "no pennies", s, span(0, 0), span(0, 5), span(0, 0), span(0, 0))
	wantSpans(t, "the only hour", one(3, 4, 1, 2, 0), span(6, 6), span(0, 4), span(2, 2))
	wantSpans(t, "less than it holds", one(3, 9, 1, 2, 0), span(6, 6), span(0, 7), span(2, 2))
}

// TestMarksAtTheChangeOfATariff checks that by the last hour of a tariff all its pennies are in, and by the hour before not all of them need be.
func TestMarksAtTheChangeOfATariff(t *testing.T) {
	wantSpans(t, "the last hour", meter(mark(49, 5)), span(120, 130), span(0, 60), span(0, 2), span(4, 6))
	wantSpans(t, "the hour before it", meter(mark(48, 5)), span(120, 150), span(0, 60), span(0, 6), span(0, 6))
	wantSpans(t, "the last hour, and much used", meter(mark(49, 145)), span(150, 150), span(0, 10), span(6, 6), span(0, 0))
	wantSpans(t, "the hour after it, and much used", meter(mark(50, 145)), span(140, 150), span(0, 10), span(4, 6), span(0, 2))
	wantSpans(t, "the hour Now", meter(mark(100, 70)), span(120, 125), span(55, 60), span(0, 1), span(5, 6))
	wantSpans(t, "the hour before Now", meter(mark(99, 70)), span(120, 145), span(0, 60), span(0, 5), span(1, 6))
}

// TestMarksThatNoCourseHas checks marks that fit one another, but not the pennies.
func TestMarksThatNoCourseHas(t *testing.T) {
	wantSpans(t, "all that there was", one(10, 15, 5, 2, 9, mark(9, 25)), span(20, 20), span(0, 0), span(2, 2))
	wantNone(t, "more than there was", one(10, 15, 5, 2, 9, mark(9, 26)), api.ErrState)
	wantNone(t, "more than there was, earlier", one(10, 15, 5, 2, 9, mark(0, 26)), api.ErrState)
	wantSpans(t, "a full meter", one(10, 15, 5, 2, 9, mark(9, 10)), span(20, 20), span(15, 15), span(2, 2))
	wantNone(t, "more than it holds", one(10, 15, 5, 2, 9, mark(9, 9)), api.ErrState)
	wantSpans(t, "less, an hour before Now", one(10, 15, 5, 2, 9, mark(8, 0)), span(20, 20), span(0, 15), span(2, 2))
	wantNone(t, "no number of pennies between", meter(mark(48, 6), mark(49, 6), mark(100, 64)), api.ErrState)
	wantNone(t, "one too many for each number", one(10, 10, 0, 3, 9, mark(9, 19)), api.ErrState)
}

// TestFullMeters checks that pennies wait until there is room for them.
func TestFullMeters(t *testing.T) {
	s := one(4, 4, 4, 3, 20, mark(9, 0))
	s.Tariffs = []api.Tariff{{Feet: 4}, {From: 10, Feet: 2}}
	wantSpans(t, "full until the change", s, span(6, 6), span(0, 4), span(0, 0), span(3, 3))
	s.Marks[0] = mark(9, 3)
	wantSpans(t, "no room for a penny", s, span(6, 6), span(0, 4), span(0, 0), span(3, 3))
	s.Marks[0] = mark(9, 4)
	wantSpans(t, "room for one", s, span(6, 8), span(0, 4), span(0, 1), span(2, 3))
	s.Marks[0] = mark(9, 5)
	wantSpans(t, "more used than at first", s, span(8, 8), span(0, 4), span(1, 1), span(2, 2))
}

// TestEqualTariffs checks that pennies of the same price are told apart by their tariff.
func TestEqualTariffs(t *testing.T) {
	s := one(4, 8, 0, 5, 20, mark(9, 7), mark(14, 9))
	s.Tariffs = []api.Tariff{{Feet: 4}, {From: 10, Feet: 4}, {From: 15, Feet: 4}}
	wantSpans(t, "equal tariffs", s, span(20, 20), span(0, 8), span(2, 3), span(0, 2), span(1, 2))
}
