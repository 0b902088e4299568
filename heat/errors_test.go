package heat_test

import (
	"math"
	"slices"
	"testing"

	"gasworks/api"
	"gasworks/heat"
)

// wantTestsError checks that all functions of tests have an error, whatever else is wrong.
func wantTestsError(t *testing.T, name string, d api.Decree, l []api.Test, e api.Errno) {
	t.Helper()
	for _, hour := range []int{3, 5000, -1} {
		wantNotKept(t, name, d, l, hour, e)
	}
	wantWorst(t, name, d, l, 0, 0, e)
}

// wantMissedError checks that Missed has an error, whatever else is wrong.
func wantMissedError(t *testing.T, name string, l []api.Test, e api.Errno) {
	t.Helper()
	wantMissed(t, name, l, 2, 12, span(0, 30), 0, 0, e)
	wantMissed(t, name, l, 2, 12, span(0, 5), 0, 0, e)
	wantMissed(t, name, l, 0, 12, span(0, 30), 0, 0, e)
}

// TestSuppliesBeyondTheirLimits sets each number of a supply to its limits, and beyond them.
func TestSuppliesBeyondTheirLimits(t *testing.T) {
	for name, f := range map[string]struct {
		at         func(s *api.Supply) *int
		valid, not []int
	}{
		"Lo":     {func(s *api.Supply) *int { return &s.Heat.Lo }, []int{0, 55}, []int{-1, 56, 10001}},
		"Hi":     {func(s *api.Supply) *int { return &s.Heat.Hi }, []int{50, 10000}, []int{-1, 0, 49, 10001}},
		"Volume": {func(s *api.Supply) *int { return &s.Volume }, []int{0, 1}, []int{-1, 2}},
		"Most":   {func(s *api.Supply) *int { return &s.Most }, []int{0, 20}, []int{-1, 21}},
		"Pay":    {func(s *api.Supply) *int { return &s.Pay }, []int{0, 1_000_000}, []int{-1, 1_000_001}},
	} {
		for _, at := range []int{0, 3} {
			l := slices.Repeat([]api.Supply{gas(50, 55, 10, 4)}, 4)
			for _, number := range f.valid {
				*f.at(&l[at]) = number
				if _, _, e := heat.Mix(l, 10, 0, api.MaxHeat); e != api.OK {
					t.Errorf("%s: Mix of %v has the error %d", name, l, e)
				}
			}
			for _, number := range append(f.not, math.MinInt, math.MaxInt) {
				*f.at(&l[at]) = number
				wantNoMix(t, name, l, 10, 0, api.MaxHeat, api.ErrArg)
				wantNoMix(t, name+", and the volume", l, 0, 0, api.MaxHeat, api.ErrArg)
				wantNoMix(t, name+", and none is right", l, 80, 0, 0, api.ErrArg)
			}
		}
	}
	both := []api.Supply{gas(-1, -1, 1, 1)}
	wantNoMix(t, "a heat below 0", both, 1, 0, 99, api.ErrArg)
	both[0].Heat = span(10001, 10001)
	wantNoMix(t, "a heat above all", both, 1, 0, 99, api.ErrArg)
}

func TestTooManySupplies(t *testing.T) {
	for _, n := range []int{5, 6, 1000} {
		l := slices.Repeat([]api.Supply{gas(50, 50, 20, 1)}, n)
		wantNoMix(t, "too many", l, 10, 0, 99, api.ErrLong)
		wantNoMix(t, "too many, and the volume", l, 0, 0, 99, api.ErrLong)
		l[n-1].Most = -1
		wantNoMix(t, "too many, and not valid", l, 10, 0, 99, api.ErrLong)
	}
	wantMix(t, "not too many", slices.Repeat([]api.Supply{gas(50, 50, 20, 1)}, 4), 10, 0, 99, 10, 0, 0, 0, 10)
}

// TestWhatAMixtureMustBe sets the volume and the heats to their limits, and beyond them.
func TestWhatAMixtureMustBe(t *testing.T) {
	for _, l := range [][]api.Supply{nil, supplies()} {
		for _, volume := range []int{0, -1, 81, 1000, math.MinInt, math.MaxInt} {
			wantNoMix(t, "no volume", l, volume, 40, 60, api.ErrRange)
		}
		for _, heats := range []api.Span{span(-1, 60), span(61, 60), span(0, 10001), span(10001, 10001), span(-2, -1), span(1, 0), span(math.MinInt, math.MaxInt), span(0, math.MaxInt), span(math.MaxInt, math.MinInt)} {
			wantNoMix(t, "no heats", l, 10, heats.Lo, heats.Hi, api.ErrRange)
		}
		wantNoMix(t, "the greatest volume", l, 80, 0, 10000, api.ErrNone)
		wantNoMix(t, "the least heats", l, 10, 0, 0, api.ErrNone)
		wantNoMix(t, "the greatest heats", l, 10, 10000, 10000, api.ErrNone)
	}
	wantMix(t, "the least volume", supplies(), 1, 0, 10000, 1, 0, 1, 0)
	wantMix(t, "one heat", []api.Supply{gas(30, 30, 1, 1)}, 1, 30, 30, 1, 1)
}

// TestTestsBeyondTheirLimits sets each number of a test to its limits, and beyond them.
func TestTestsBeyondTheirLimits(t *testing.T) {
	for name, f := range map[string]struct {
		at         func(s *api.Test) *int
		valid, not []int
	}{
		"Hour":    {func(s *api.Test) *int { return &s.Hour }, []int{0, 1 << 20}, []int{-1, 1<<20 + 1}},
		"Station": {func(s *api.Test) *int { return &s.Station }, []int{0, 15}, []int{-1, 16}},
		"Lo":      {func(s *api.Test) *int { return &s.Heat.Lo }, []int{0, 35}, []int{-1, 49, 10001}},
		"Hi":      {func(s *api.Test) *int { return &s.Heat.Hi }, []int{46, 10000}, []int{-1, 0, 29, 10001}},
	} {
		for at := range 3 {
			for _, number := range f.valid {
				l := tests()
				*f.at(&l[at]) = number
				wantValidTests(t, name, decree(), l)
			}
			for _, number := range append(f.not, math.MinInt, math.MaxInt) {
				l := tests()
				*f.at(&l[at]) = number
				wantTestsError(t, name, decree(), l, api.ErrArg)
				wantMissedError(t, name, l, api.ErrArg)
			}
		}
	}
	for _, s := range []api.Span{span(-1, -1), span(10001, 10001), span(2, 1)} {
		l := []api.Test{{Heat: s}}
		wantTestsError(t, "no heat", decree(), l, api.ErrArg)
		wantMissedError(t, "no heat", l, api.ErrArg)
	}
}

// wantValidTests checks that no function refuses the tests and the decree.
func wantValidTests(t *testing.T, name string, d api.Decree, l []api.Test) {
	t.Helper()
	_, e1 := heat.Kept(d, l, 3)
	_, e2 := heat.Due(d, l, 3)
	_, _, e3 := heat.Worst(d, l)
	_, _, e4 := heat.Missed(l, 2, 12, span(0, 30))
	for _, e := range []api.Errno{e1, e2, e3, e4} {
		if e != api.OK && e != api.ErrNone {
			t.Errorf("%s: the errors of %v and %v are %d, %d, %d and %d", name, d, l, e1, e2, e3, e4)
			return
		}
	}
}

// TestDecreesBeyondTheirLimits sets each number of a decree to its limits, and beyond them.
func TestDecreesBeyondTheirLimits(t *testing.T) {
	for name, f := range map[string]struct {
		at         func(d *api.Decree) *int
		valid, not []int
	}{
		"Window":   {func(d *api.Decree) *int { return &d.Window }, []int{1, 10000}, []int{0, -1, 10001}},
		"Declared": {func(d *api.Decree) *int { return &d.Declared }, []int{5, 10000}, []int{4, 0, -1, 10001}},
		"Slack":    {func(d *api.Decree) *int { return &d.Slack }, []int{0, 50}, []int{-1, 51, 10001}},
		"Pay":      {func(d *api.Decree) *int { return &d.Pay }, []int{0, 1_000_000}, []int{-1, 1_000_001}},
	} {
		for _, number := range f.valid {
			d := decree()
			*f.at(&d) = number
			wantValidTests(t, name, d, tests())
		}
		for _, number := range append(f.not, math.MinInt, math.MaxInt) {
			d := decree()
			*f.at(&d) = number
			wantTestsError(t, name, d, tests(), api.ErrArg)
			wantTestsError(t, name+", and no test", d, nil, api.ErrArg)
		}
	}
	for _, d := range []api.Decree{{Window: 1, Declared: -1, Slack: -1}, {Window: 1, Declared: 10001, Slack: 10001}, {Window: 1, Declared: -1, Slack: -2}, {}} {
		wantTestsError(t, "no decree", d, tests(), api.ErrArg)
	}
	wantWorst(t, "the greatest slack", api.Decree{Window: 1, Declared: 10000, Slack: 10000}, tests(), 3, api.Always, api.OK)
}

func TestTooManyTests(t *testing.T) {
	for _, n := range []int{33, 34, 1000} {
		l := slices.Repeat([]api.Test{test(3, 0, 50, 50)}, n)
		wantTestsError(t, "too many", decree(), l, api.ErrLong)
		wantTestsError(t, "too many, and no decree", api.Decree{}, l, api.ErrLong)
		wantMissedError(t, "too many", l, api.ErrLong)
		l[0].Station = -1
		wantTestsError(t, "too many, and not valid", decree(), l, api.ErrLong)
		wantMissedError(t, "too many, and not valid", l, api.ErrLong)
	}
	l := slices.Repeat([]api.Test{test(3, 0, 44, 50)}, 32)
	wantKept(t, "not too many", decree(), l, 3, api.Maybe, span(0, 6))
	wantWorst(t, "not too many", decree(), l, 3, api.Maybe, api.OK)
	wantMissed(t, "not too many", l, 1, 5, span(0, 30), 8, 0, api.OK)
	l[31].Station = 16
	wantTestsError(t, "the last one is not valid", decree(), l, api.ErrArg)
	wantMissedError(t, "the last one is not valid", l, api.ErrArg)
}

func TestHoursThatAreNone(t *testing.T) {
	for _, hour := range []int{-1, 1<<20 + 1, math.MinInt, math.MaxInt} {
		wantNotKept(t, "no hour", decree(), tests(), hour, api.ErrRange)
		wantNotKept(t, "no hour, and no test", decree(), nil, hour, api.ErrRange)
	}
	for _, hour := range []int{0, 2, 18, 19, 30, 1 << 20} {
		wantNotKept(t, "no test in the window", decree(), tests(), hour, api.ErrNone)
	}
}

// TestWhatIsAskedForOfStations sets the stations, the period and the hours to their limits, and beyond them.
func TestWhatIsAskedForOfStations(t *testing.T) {
	for _, l := range [][]api.Test{nil, tests()} {
		for _, n := range []int{0, -1, 17, math.MinInt, math.MaxInt} {
			wantMissed(t, "no stations", l, n, 12, span(0, 30), 0, 0, api.ErrRange)
		}
		for _, n := range []int{0, -1, 10001, math.MinInt, math.MaxInt} {
			wantMissed(t, "no period", l, 2, n, span(0, 30), 0, 0, api.ErrRange)
		}
		for _, hours := range []api.Span{span(-1, 30), span(31, 30), span(0, 1<<20+1), span(-2, -1), span(0, -1), span(1<<20+1, 1<<20+1), span(math.MinInt, math.MaxInt), span(0, math.MaxInt), span(math.MaxInt, math.MaxInt)} {
			wantMissed(t, "no hours", l, 2, 12, hours, 0, 0, api.ErrRange)
		}
		wantMissed(t, "the greatest numbers", l, 16, 10000, span(0, 1<<20), 9999, 2*min(1, len(l)), api.OK)
		wantMissed(t, "the least numbers", l, 1, 1, span(0, 0), 0, 0, api.OK)
		wantMissed(t, "a period that the hours do not have", l, 16, 10000, span(0, 9998), 0, 0, api.ErrNone)
	}
}

// TestAnyArguments calls all functions with numbers of all sizes: none of them panics or runs on, and none returns a result besides an error.
func TestAnyArguments(t *testing.T) {
	some := []int{math.MinInt, -1, 0, 0, 1, 1, 2, 5, 10, 16, 17, 20, 21, 40, 50, 80, 10000, 10001, 1_000_000, 1 << 20, 1<<20 + 1, 1 << 40, math.MaxInt}
	dice := newDice(1)
	number := func() int { return some[dice.roll(len(some))] }
	seen := map[api.Errno]int{}
	for range 20_000 {
		l, d, tests := supplies(), decree(), tests()
		if dice.roll(2) == 0 {
			l[dice.roll(3)] = api.Supply{Heat: span(number(), number()), Volume: number(), Most: number(), Pay: number()}
		}
		if parts, cost, e := heat.Mix(l, 1+dice.roll(30), number(), number()); e != api.OK && (len(parts) != 0 || cost != 0) {
			t.Errorf("Mix of %v = %v, %d, error %d", l, parts, cost, e)
		}
		if dice.roll(3) == 0 {
			d = api.Decree{Window: number(), Declared: number(), Slack: number(), Pay: number()}
		}
		if dice.roll(3) == 0 {
			tests[dice.roll(3)] = test(number(), number(), number(), number())
		}
		hour := number()
		kept, e := heat.Kept(d, tests, hour)
		seen[e]++
		if due, e2 := heat.Due(d, tests, hour); e != e2 || e != api.OK && (kept != 0 || due != api.Span{}) {
			t.Errorf("Kept of %v, %v, %d = %d, error %d; Due = %v, error %d", d, tests, hour, kept, e, due, e2)
		}
		if h, k, e := heat.Worst(d, tests); e != api.OK && (h != 0 || k != 0) {
			t.Errorf("Worst of %v, %v = %d, %d, error %d", d, tests, h, k, e)
		}
		if h, s, e := heat.Missed(tests, number(), number(), span(number(), number())); e != api.OK && (h != 0 || s != 0) {
			t.Errorf("Missed of %v = %d, %d, error %d", tests, h, s, e)
		}
	}
	if min(seen[api.OK], seen[api.ErrArg], seen[api.ErrRange], seen[api.ErrNone]) < 500 {
		t.Errorf("Kept had the errors %v", seen)
	}
}
