package scale_test

import (
	"math"
	"slices"
	"testing"

	"gasworks/api"
	"gasworks/scale"
)

var far = []int{math.MinInt, -1, 0, 1, 99, math.MaxInt}

// wantNotValid checks that all functions refuse an act, whatever else is asked.
func wantNotValid(t *testing.T, name string, a api.Act) {
	t.Helper()
	for _, n := range far {
		wantRate(t, name, a, n, 0, api.ErrArg)
		wantDearest(t, name, a, n, 0, api.ErrArg)
		for _, l := range [][]api.Year{nil, years(), {year(n, n, n)}, make([]api.Year, 17)} {
			wantNotRun(t, name, a, l, api.ErrArg)
			wantCheck(t, name, a, l, nil, 0, api.ErrArg)
			wantCheck(t, name, a, l, payments(), 0, api.ErrArg)
			wantNeeded(t, name, a, l, n, 0, api.ErrArg)
		}
	}
}

// wantYearsRefused checks that the functions of years have an error, whatever else is asked.
func wantYearsRefused(t *testing.T, name string, l []api.Year, e api.Errno) {
	t.Helper()
	wantNotRun(t, name, example(), l, e)
	wantCheck(t, name, example(), l, nil, 0, e)
	wantCheck(t, name, example(), l, payments(), 0, e)
	for _, n := range far {
		wantNeeded(t, name, example(), l, n, 0, e)
	}
}

// TestActsBeyondTheirLimits sets each number of an act to its limits, and beyond them.
func TestActsBeyondTheirLimits(t *testing.T) {
	for name, f := range map[string]struct {
		at          func(a *api.Act) *int
		least, most int
	}{
		"Price":    {func(a *api.Act) *int { return &a.Price }, 0, 100_000},
		"Dividend": {func(a *api.Act) *int { return &a.Dividend }, 0, 10_000},
		"Step":     {func(a *api.Act) *int { return &a.Step }, 1, 100_000},
		"Gain":     {func(a *api.Act) *int { return &a.Gain }, 0, 10_000},
		"Most":     {func(a *api.Act) *int { return &a.Most }, 0, 1 << 40},
		"Back":     {func(a *api.Act) *int { return &a.Back }, 0, 5},
	} {
		for _, n := range []int{f.least, f.least + 1, f.most - 1, f.most} {
			wantValid(t, name, changed(func(a *api.Act) { *f.at(a) = n }))
		}
		for _, n := range []int{f.least - 1, f.most + 1, -f.most - 1, math.MinInt, math.MaxInt} {
			wantNotValid(t, name, changed(func(a *api.Act) { *f.at(a) = n }))
		}
	}
	wantNotValid(t, "nothing", api.Act{})
	wantValid(t, "the least", api.Act{Step: 1})
	wantValid(t, "the greatest", api.Act{Price: 100_000, Dividend: 10_000, Step: 100_000, Gain: 10_000, Most: 1 << 40, Back: 5})
}

// wantValid checks that all functions take an act.
func wantValid(t *testing.T, name string, a api.Act) {
	t.Helper()
	_, e1 := scale.Rate(a, 0)
	_, e2 := scale.Dearest(a, 0)
	p, e3 := scale.Run(a, years())
	_, e4 := scale.Check(a, years(), p)
	_, e5 := scale.Needed(a, []api.Year{year(48, 1<<40, 0)}, 0)
	if l := []api.Errno{e1, e2, e3, e4}; len(p) != 5 || slices.Max(l) != api.OK || e5 != api.OK && e5 != api.ErrNone {
		t.Errorf("%s: %v has the errors %v and %d", name, a, l, e5)
	}
}

// TestYearsBeyondTheirLimits sets each number of a year to its limits, and beyond them.
func TestYearsBeyondTheirLimits(t *testing.T) {
	for name, f := range map[string]struct {
		at          func(y *api.Year) *int
		least, most int
	}{
		"Price":   {func(y *api.Year) *int { return &y.Price }, 0, 100_000},
		"Capital": {func(y *api.Year) *int { return &y.Capital }, 0, 1 << 40},
		"Profit":  {func(y *api.Year) *int { return &y.Profit }, -1 << 40, 1 << 40},
	} {
		for i := range years() {
			for _, n := range []int{f.least, f.least + 1, f.most - 1, f.most} {
				l := years()
				*f.at(&l[i]) = n
				if p, e := scale.Run(example(), l); len(p) != 5 || e != api.OK {
					t.Errorf("%s: Run of %v = %v, error %d", name, l, p, e)
				}
			}
			for _, n := range []int{f.least - 1, f.most + 1, math.MinInt, math.MaxInt} {
				l := years()
				*f.at(&l[i]) = n
				wantYearsRefused(t, name, l, api.ErrRange)
			}
		}
	}
}

func TestTooManyYears(t *testing.T) {
	for _, n := range []int{0, 1, 15, 16, 17, 18, 1000} {
		l := slices.Repeat([]api.Year{year(48, 0, 0)}, n)
		p := slices.Repeat([]api.Payment{payment(1000, 0, 0, 0, 0, 0)}, n)
		if n <= 16 {
			wantRun(t, "years", example(), l, p...)
			wantCheck(t, "years", example(), l, p, n, api.OK)
			continue
		}
		wantYearsRefused(t, "too many years", l, api.ErrLong)
		l[0] = year(-1, -1, math.MinInt)
		wantYearsRefused(t, "too many years, of which one is not valid", l, api.ErrLong)
	}
	wantCheck(t, "too many payments", example(), nil, make([]api.Payment, 17), 0, api.ErrRefuse)
}

func TestPricesAndRatesBeyondTheirLimits(t *testing.T) {
	for _, price := range []int{math.MinInt, -100_001, -1, 100_001, math.MaxInt} {
		wantRate(t, "no price", example(), price, 0, api.ErrRange)
	}
	for _, rate := range []int{math.MinInt, -10_001, -1, 10_001, 100_000, math.MaxInt} {
		wantDearest(t, "no rate", example(), rate, 0, api.ErrRange)
	}
	wantDearest(t, "a rate of no price", example(), 10_000, 0, api.ErrNone)
}

func TestYearsThatAreNone(t *testing.T) {
	for n := range 17 {
		l := slices.Repeat([]api.Year{owing(1, 1)}, n)
		for _, i := range []int{math.MinInt, -n - 1, -1, n, n + 1, 17, math.MaxInt} {
			wantNeeded(t, "no year", example(), l, i, 0, api.ErrRange)
		}
		for i := range n {
			wantNeeded(t, "a year", example(), l, i, 1, api.OK)
		}
	}
	wantNeeded(t, "no year, in which nothing would be due", example(), []api.Year{owing(0, 0)}, 1, 0, api.ErrRange)
}

// TestAnyArguments calls all functions with numbers of all sizes: none of them panics or runs on, and none returns a result besides an error.
func TestAnyArguments(t *testing.T) {
	some := []int{math.MinInt, -1 << 40, -1, 0, 0, 0, 1, 1, 2, 3, 4, 5, 5, 48, 1000, 9999, 10_000, 10_000, 10_001, 99_999, 100_000, 1 << 40, 1<<40 + 1, math.MaxInt}
	d := newDice(1)
	number := func() int { return some[d.roll(len(some))] }
	most := func(n int) int {
		if m := number(); d.roll(8) == 0 || 0 <= m && m <= n {
			return m
		}
		return 1
	}
	seen := map[api.Errno]int{}
	for range 50_000 {
		a := api.Act{Price: most(100_000), Dividend: most(10_000), Step: max(1, most(100_000)), Gain: most(10_000), Most: most(1 << 40), Back: most(5)}
		var l []api.Year
		for range d.roll(18) {
			l = append(l, year(number()&(1<<16-1), most(1<<40), most(1<<40)))
		}
		rate, e1 := scale.Rate(a, number())
		price, e2 := scale.Dearest(a, number())
		p, e3 := scale.Run(a, l)
		profit, e4 := scale.Needed(a, l, number())
		n, e5 := scale.Check(a, l, p)
		for i, e := range []api.Errno{e1, e2, e3, e4, e5} {
			seen[e]++
			if (e == api.ErrArg) != (e1 == api.ErrArg) || e != api.OK && []int{rate, price, len(p), profit, 0}[i] != 0 {
				t.Errorf("of %v, %v it is said %d, %d, %v, %d, %d, with the errors %d, %d, %d, %d, %d", a, l, rate, price, p, profit, n, e1, e2, e3, e4, e5)
			}
		}
		if e3 != e5 || e3 == api.OK && (len(p) != len(l) || n != len(l)) || e3 != api.OK && n != 0 {
			t.Errorf("of %v, %v Run = %v, error %d; Check of it = %d, error %d", a, l, p, e3, n, e5)
		}
	}
	for _, e := range []api.Errno{api.OK, api.ErrArg, api.ErrLong, api.ErrRange, api.ErrNone} {
		if seen[e] < 300 {
			t.Errorf("the errors were %v", seen)
		}
	}
}
