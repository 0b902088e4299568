package penny_test

import (
	"math"
	"slices"
	"testing"

	"gasworks/api"
	"gasworks/penny"
)

// wantError checks that all functions have an error, whatever the hours of the pennies are.
func wantError(t *testing.T, name string, s api.Slot, e api.Errno) {
	t.Helper()
	wantNone(t, name, s, e)
	for _, hours := range [][]int{nil, {10, 20, 30, 60, 70, 90}, {10, 60, 60, 60, 60, 60}, {-1}, {0, 0, 0, 0, 0, math.MaxInt}} {
		wantEnd(t, name, s, hours, 0, e)
	}
}

// wantValid checks that no function refuses a slot meter.
func wantValid(t *testing.T, name string, s api.Slot) {
	t.Helper()
	_, _, _, e1 := penny.Play(s, []int{10, 20, 30, 60, 70, 90})
	_, e2 := penny.Coins(s)
	_, e3 := penny.Bought(s)
	_, e4 := penny.Left(s)
	if slices.Contains([]api.Errno{e1, e2, e3, e4}, api.ErrArg) {
		t.Errorf("%s: the errors of %v are %d, %d, %d and %d", name, s, e1, e2, e3, e4)
	}
}

// A field is a number of a slot meter: where it is in that of the examples, and some numbers that it can and cannot be there.
type field struct {
	name       string
	at         func(s *api.Slot) *int
	valid, not []int
}

func fields() []field {
	return []field{
		{"Start", func(s *api.Slot) *int { return &s.Start }, []int{0, 60}, []int{-1, 61}},
		{"Hold", func(s *api.Slot) *int { return &s.Hold }, []int{25, 10000}, []int{24, 5, 1, 0, -1, 10001}},
		{"Coins", func(s *api.Slot) *int { return &s.Coins }, []int{0, 24}, []int{-1, 25}},
		{"Now", func(s *api.Slot) *int { return &s.Now }, []int{80, 1 << 20}, []int{79, 0, -1, 1<<20 + 1}},
		{"From", func(s *api.Slot) *int { return &s.Tariffs[0].From }, []int{0}, []int{-1, 1, 49, 50}},
		{"Feet", func(s *api.Slot) *int { return &s.Tariffs[0].Feet }, []int{1, 60}, []int{0, -1, 61}},
		{"the last From", func(s *api.Slot) *int { return &s.Tariffs[1].From }, []int{1, 100}, []int{0, -1, 101}},
		{"the last Feet", func(s *api.Slot) *int { return &s.Tariffs[1].Feet }, []int{1, 60}, []int{0, -1, 61}},
		{"Hour", func(s *api.Slot) *int { return &s.Marks[0].Hour }, []int{0, 80, 100}, []int{-1, 101}},
		{"Used", func(s *api.Slot) *int { return &s.Marks[0].Used }, []int{0, 1 << 30}, []int{-1, 1<<30 + 1}},
		{"the last Hour", func(s *api.Slot) *int { return &s.Marks[1].Hour }, []int{0, 40, 100}, []int{-1, 101}},
		{"the last Used", func(s *api.Slot) *int { return &s.Marks[1].Used }, []int{0, 1 << 30}, []int{-1, 1<<30 + 1}},
	}
}

// TestFieldsBeyondTheirLimits sets each number to its limits, and beyond them.
func TestFieldsBeyondTheirLimits(t *testing.T) {
	for _, f := range fields() {
		for _, number := range f.valid {
			s := example()
			*f.at(&s) = number
			wantValid(t, f.name, s)
		}
		for _, number := range append(f.not, math.MinInt, math.MaxInt) {
			s := example()
			*f.at(&s) = number
			wantError(t, f.name, s, api.ErrArg)
		}
	}
}

// TestLeastAndGreatest checks slot meters of which several numbers are at their limits.
func TestLeastAndGreatest(t *testing.T) {
	wantSpans(t, "the least of all", one(1, 1, 0, 0, 0), span(0, 0), span(0, 0), span(0, 0))
	wantSpans(t, "a full meter that holds one foot", one(1, 1, 1, 24, 0), span(24, 24), span(0, 1), span(24, 24))
	wantError(t, "it holds nothing", one(1, 0, 0, 0, 0), api.ErrArg)
	wantError(t, "less than nothing", one(-1, -1, -1, 0, 0), api.ErrArg)
	big := one(10000, 10000, 10000, 24, 1<<20, mark(1<<20, 250_000))
	wantSpans(t, "the greatest of all", big, span(240_000, 240_000), span(0, 0), span(24, 24))
	big.Marks[0].Used = 1 << 30
	wantNone(t, "more than could ever be bought", big, api.ErrState)
	wantEnd(t, "more than could ever be bought", big, make([]int, 24), 1<<20, api.ErrShort)
}

// TestTariffsOutOfOrder checks tariffs that do not begin at 0, or do not rise, or begin after Now.
func TestTariffsOutOfOrder(t *testing.T) {
	for name, from := range map[string][]int{
		"equal": {0, 5, 5}, "falling": {0, 6, 5}, "all at first": {0, 0}, "not from 0": {1, 5}, "before 0": {-1, 5}, "after Now": {0, 5, 11}, "one after Now": {11},
	} {
		s := one(5, 60, 5, 2, 10)
		s.Tariffs = nil
		for _, hour := range from {
			s.Tariffs = append(s.Tariffs, api.Tariff{From: hour, Feet: 5})
		}
		wantError(t, name, s, api.ErrArg)
	}
	s := one(5, 60, 5, 2, 10)
	s.Tariffs = append(s.Tariffs, api.Tariff{From: 1, Feet: 6}, api.Tariff{From: 10, Feet: 7})
	wantSpans(t, "in order", s, span(10, 14), span(0, 19), span(0, 2), span(0, 2), span(0, 2))
}

func TestListsThatAreTooLong(t *testing.T) {
	for _, n := range []int{1, 5} {
		wantValid(t, "so many tariffs", withTariffs(n))
	}
	for _, n := range []int{0, 6, 7, 1000} {
		wantError(t, "so many tariffs", withTariffs(n), api.ErrArg)
	}
	none := meter()
	none.Tariffs = []api.Tariff{}
	wantError(t, "an empty list of tariffs", none, api.ErrArg)
	for _, n := range []int{0, 1, 12} {
		wantSpans(t, "so many marks", meter(slices.Repeat([]api.Mark{mark(3, 5)}, n)...), span(120, 150), span(0, 60), span(0, 6), span(0, 6))
	}
	for _, n := range []int{13, 14, 1000} {
		wantError(t, "so many marks", meter(slices.Repeat([]api.Mark{mark(3, 5)}, n)...), api.ErrArg)
	}
}

// withTariffs returns the slot meter of the examples with so many tariffs.
func withTariffs(n int) api.Slot {
	s := meter()
	s.Tariffs = nil
	s.Now = max(s.Now, n)
	for i := range n {
		s.Tariffs = append(s.Tariffs, api.Tariff{From: i, Feet: 1 + i%3})
	}
	return s
}

func TestEmptyLists(t *testing.T) {
	s := meter()
	s.Marks = []api.Mark{}
	wantSpans(t, "an empty list of marks", s, span(120, 150), span(0, 60), span(0, 6), span(0, 6))
	wantPlay(t, "an empty list of marks", s, []int{1, 2, 3, 4, 5, 6}, 150, span(0, 60))
}

// TestOrderOfErrors checks slot meters with several errors.
func TestOrderOfErrors(t *testing.T) {
	wantError(t, "ErrTwice", meter(mark(10, 50), mark(10, 51)), api.ErrTwice)
	wantError(t, "ErrTwice, the greater one first", meter(mark(10, 51), mark(10, 50)), api.ErrTwice)
	wantError(t, "ErrTwice, another one between", meter(mark(10, 50), mark(12, 55), mark(10, 51)), api.ErrTwice)
	wantError(t, "ErrTwice, after nothing used", meter(mark(10, 0), mark(10, 51)), api.ErrTwice)
	wantError(t, "ErrTwice before ErrOrder", meter(mark(10, 50), mark(9, 51), mark(10, 52)), api.ErrTwice)
	wantError(t, "ErrTwice before ErrOrder of others", meter(mark(1, 50), mark(2, 40), mark(70, 60), mark(70, 61)), api.ErrTwice)
	wantError(t, "ErrOrder", meter(mark(9, 51), mark(10, 50)), api.ErrOrder)
	wantError(t, "ErrOrder, the later one first", meter(mark(10, 50), mark(9, 51)), api.ErrOrder)
	wantError(t, "ErrOrder, one is there twice", meter(mark(10, 50), mark(9, 51), mark(10, 50)), api.ErrOrder)
	wantError(t, "ErrOrder, far apart", meter(mark(0, 1), mark(50, 0)), api.ErrOrder)
	wantError(t, "ErrOrder, the last ones", meter(mark(1, 1), mark(2, 2), mark(100, 3), mark(99, 4)), api.ErrOrder)
	wantError(t, "ErrArg before ErrTwice", meter(mark(10, 50), mark(10, 51), mark(101, 60)), api.ErrArg)
	wantError(t, "ErrArg before ErrOrder", meter(mark(10, 50), mark(9, 51), mark(11, -1)), api.ErrArg)
	wantNone(t, "in the same hour the same", meter(mark(10, 1000), mark(10, 1000)), api.ErrState)
	wantSpans(t, "in another hour the same", meter(mark(9, 25), mark(10, 25)), span(125, 150), span(0, 60), span(1, 6), span(0, 5))
}

// TestHoursOfPennies checks hours that are too few, too many, or none.
func TestHoursOfPennies(t *testing.T) {
	own := []int{10, 20, 30, 60, 70, 90}
	// Of the second one no hours are a course: that comes later.
	for _, s := range []api.Slot{example(), example(mark(100, 160))} {
		for _, n := range []int{0, 1, 5} {
			wantEnd(t, "too few", s, own[:n], 0, api.ErrRange)
		}
		wantEnd(t, "too many", s, append(slices.Clone(own), 90), 0, api.ErrRange)
		wantEnd(t, "very many", s, make([]int, 100_000), 0, api.ErrRange)
		for i := range own {
			for _, hour := range []int{-1, 101, 1<<20 + 1, math.MinInt, math.MaxInt} {
				hours := slices.Clone(own)
				hours[i] = hour
				wantEnd(t, "no hour", s, hours, 0, api.ErrRange)
			}
		}
	}
	wantPlay(t, "the first hour and the last", meter(), []int{0, 100, 100, 100, 100, 100}, 125, span(0, 60))
	wantEnd(t, "the first hour and the last", example(mark(100, 160)), own, 100, api.ErrShort)
}

// TestAnyArguments calls all functions with numbers of all sizes: none of them panics or runs on, none returns a result besides an error, and all refuse the same slot meters.
func TestAnyArguments(t *testing.T) {
	some := []int{math.MinInt, -64, -1, 0, 1, 2, 5, 6, 20, 24, 25, 40, 50, 60, 80, 100, 101, 10000, 1 << 20, 1<<20 + 1, 1 << 30, 1 << 40, math.MaxInt}
	d := newDice(7)
	valid, settled := 0, 0
	for range 5000 {
		s := example()
		all := fields()
		for range d.roll(4) {
			*all[d.roll(len(all))].at(&s) = some[d.roll(len(some))]
		}
		if d.roll(9) == 0 {
			s.Tariffs = slices.Repeat(s.Tariffs, d.roll(4))
		}
		if d.roll(9) == 0 {
			s.Marks = slices.Repeat(s.Marks, d.roll(8))
		}
		var hours []int
		for range d.roll(8) {
			hours = append(hours, some[d.roll(len(some))])
		}
		switch callAll(t, s, hours) {
		case api.OK:
			valid, settled = valid+1, settled+1
		case api.ErrArg:
		default:
			valid++
		}
	}
	if valid < 1000 || valid > 4000 || settled < 500 {
		t.Errorf("%d slot meters were valid, of %d there was a course", valid, settled)
	}
}

// callAll returns the error that all functions but Play have.
func callAll(t *testing.T, s api.Slot, hours []int) api.Errno {
	t.Helper()
	coins, e := penny.Coins(s)
	bought, e2 := penny.Bought(s)
	left, e3 := penny.Left(s)
	if e != e2 || e != e3 || e != api.OK && (len(coins) != 0 || bought != api.Span{} || left != api.Span{}) {
		t.Errorf("Coins of %v = %v, error %d; Bought = %v, error %d; Left = %v, error %d", s, coins, e, bought, e2, left, e3)
	}
	gas, credit, hour, e4 := penny.Play(s, hours)
	first := func(e api.Errno) bool { return e == api.ErrArg || e == api.ErrTwice || e == api.ErrOrder }
	if (first(e) || first(e4)) && e != e4 || e == api.ErrState && e4 == api.OK {
		t.Errorf("the errors of %v are %d, and for %v %d", s, e, hours, e4)
	}
	marked := e4 == api.OK || e4 == api.ErrShort || e4 == api.ErrFull
	if e4 != api.OK && (gas != 0 || credit != api.Span{}) || !marked && hour != 0 {
		t.Errorf("Play of %v, %v = %d, %v, %d, error %d", s, hours, gas, credit, hour, e4)
	}
	return e
}
