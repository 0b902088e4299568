package heat_test

import (
	"slices"
	"testing"

	"gasworks/api"
	"gasworks/heat"
)

func span(lo, hi int) api.Span { return api.Span{Lo: lo, Hi: hi} }

// gas returns a supply that adds to the volume.
func gas(lo, hi, most, pay int) api.Supply {
	return api.Supply{Heat: span(lo, hi), Volume: 1, Most: most, Pay: pay}
}

// oil returns a supply that does not add to the volume.
func oil(lo, hi, most, pay int) api.Supply {
	return api.Supply{Heat: span(lo, hi), Most: most, Pay: pay}
}

func test(hour, station, lo, hi int) api.Test {
	return api.Test{Hour: hour, Station: station, Heat: span(lo, hi)}
}

// supplies returns those of the chapter's examples.
func supplies() []api.Supply {
	return []api.Supply{gas(50, 55, 10, 4), gas(30, 30, 8, 1), oil(10, 12, 5, 3)}
}

// decree and tests return those of the chapter's examples.
func decree() api.Decree { return api.Decree{Window: 10, Declared: 50, Slack: 5, Pay: 6} }

func tests() []api.Test {
	return []api.Test{test(3, 0, 40, 48), test(8, 1, 44, 46), test(20, 0, 30, 35)}
}

func wantMix(t *testing.T, name string, l []api.Supply, volume, least, most, cost int, parts ...int) {
	t.Helper()
	if p, c, e := heat.Mix(l, volume, least, most); !slices.Equal(p, parts) || c != cost || e != api.OK {
		t.Errorf("%s: Mix of %v, %d, %d, %d = %v, %d, error %d; want %v, %d", name, l, volume, least, most, p, c, e, parts, cost)
	}
}

// wantNoMix checks that there is an error, and nothing else.
func wantNoMix(t *testing.T, name string, l []api.Supply, volume, least, most int, e api.Errno) {
	t.Helper()
	if p, c, e2 := heat.Mix(l, volume, least, most); len(p) != 0 || c != 0 || e2 != e {
		t.Errorf("%s: Mix of %v, %d, %d, %d = %v, %d, error %d; want error %d", name, l, volume, least, most, p, c, e2, e)
	}
}

// wantKept checks Kept and Due.
func wantKept(t *testing.T, name string, d api.Decree, l []api.Test, hour, kept int, due api.Span) {
	t.Helper()
	if k, e := heat.Kept(d, l, hour); k != kept || e != api.OK {
		t.Errorf("%s: Kept of %v, %v, %d = %d, error %d; want %d", name, d, l, hour, k, e, kept)
	}
	if s, e := heat.Due(d, l, hour); s != due || e != api.OK {
		t.Errorf("%s: Due of %v, %v, %d = %v, error %d; want %v", name, d, l, hour, s, e, due)
	}
}

// wantNotKept checks that Kept and Due have an error, and nothing else.
func wantNotKept(t *testing.T, name string, d api.Decree, l []api.Test, hour int, e api.Errno) {
	t.Helper()
	if k, e2 := heat.Kept(d, l, hour); k != 0 || e2 != e {
		t.Errorf("%s: Kept of %v, %v, %d = %d, error %d; want error %d", name, d, l, hour, k, e2, e)
	}
	if s, e2 := heat.Due(d, l, hour); s != (api.Span{}) || e2 != e {
		t.Errorf("%s: Due of %v, %v, %d = %v, error %d; want error %d", name, d, l, hour, s, e2, e)
	}
}

func wantWorst(t *testing.T, name string, d api.Decree, l []api.Test, hour, kept int, e api.Errno) {
	t.Helper()
	if h, k, e2 := heat.Worst(d, l); h != hour || k != kept || e2 != e {
		t.Errorf("%s: Worst of %v, %v = %d, %d, error %d; want %d, %d, error %d", name, d, l, h, k, e2, hour, kept, e)
	}
}

func wantMissed(t *testing.T, name string, l []api.Test, stations, period int, hours api.Span, hour, station int, e api.Errno) {
	t.Helper()
	if h, s, e2 := heat.Missed(l, stations, period, hours); h != hour || s != station || e2 != e {
		t.Errorf("%s: Missed of %v, %d, %d, %v = %d, %d, error %d; want %d, %d, error %d", name, l, stations, period, hours, h, s, e2, hour, station, e)
	}
}

func TestExamples(t *testing.T) {
	wantMix(t, "example", supplies(), 10, 40, 60, 25, 5, 5, 0)
	dear := supplies()
	dear[0].Pay = 9
	wantMix(t, "a dear gas", dear, 10, 40, 60, 46, 3, 7, 4)
	wantKept(t, "example", decree(), tests(), 3, api.Maybe, span(0, 30))
	wantKept(t, "example", decree(), tests(), 8, api.Maybe, span(0, 18))
	wantKept(t, "example", decree(), tests(), 17, api.Maybe, span(0, 6))
	wantKept(t, "example", decree(), tests(), 25, api.Never, span(60, 90))
	wantWorst(t, "example", decree(), tests(), 20, api.Never, api.OK)
	wantMissed(t, "example", tests(), 2, 12, span(0, 30), 15, 0, api.OK)
}

// TestCertainties checks what the chapter says of the numbers of api.
func TestCertainties(t *testing.T) {
	d := api.Decree{Window: 1, Declared: 10}
	l := []api.Test{test(0, 0, 9, 9), test(1, 0, 9, 10), test(2, 0, 10, 10)}
	for hour, kept := range []int{0, 1, 2} {
		wantKept(t, "in the order of the hours", d, l, hour, kept, span(0, 0))
	}
}

func TestHeatOfMixtures(t *testing.T) {
	l := []api.Supply{gas(20, 30, 5, 2), oil(3, 5, 4, 7)}
	wantMix(t, "the widest", l, 2, 0, api.MaxHeat, 4, 2, 0)
	wantMix(t, "just as cold as it may be", l, 2, 20, 30, 4, 2, 0)
	wantNoMix(t, "one too cold, and no room for oil", l, 2, 21, 30, api.ErrNone)
	wantNoMix(t, "one too hot", l, 2, 20, 29, api.ErrNone)
	wantNoMix(t, "the span is wider than what it may be", l, 2, 25, 25, api.ErrNone)
	wantMix(t, "one part of oil is shared by all", l, 2, 21, 33, 11, 2, 1)
	wantMix(t, "one part of oil is shared by all", l, 3, 21, 32, 13, 3, 1)
	wantNoMix(t, "too hot by a part of the oil", l, 3, 21, 31, api.ErrNone)
	wantMix(t, "one more for each", l, 3, 22, 34, 20, 3, 2)
	wantMix(t, "all of the oil", l, 1, 32, 50, 30, 1, 4)
	wantNoMix(t, "more than all of the oil", l, 1, 33, 51, api.ErrNone)
	wantMix(t, "the least gas", l, 1, 20, 30, 2, 1, 0)
	wantMix(t, "all of the gas", l, 5, 20, 30, 10, 5, 0)
	wantNoMix(t, "more than all of the gas", l, 6, 0, api.MaxHeat, api.ErrNone)
}

// TestSuppliesThatDoNotHelp checks that parts that are not needed are not bought.
func TestSuppliesThatDoNotHelp(t *testing.T) {
	for _, volume := range []int{1, 5, 80} {
		wantNoMix(t, "nothing", nil, volume, 0, api.MaxHeat, api.ErrNone)
		wantNoMix(t, "nothing", []api.Supply{}, volume, 0, api.MaxHeat, api.ErrNone)
		wantNoMix(t, "only oil", []api.Supply{oil(50, 50, 20, 0), oil(50, 50, 20, 1)}, volume, 0, api.MaxHeat, api.ErrNone)
	}
	wantNoMix(t, "no part of it", []api.Supply{gas(50, 50, 0, 1)}, 1, 0, 99, api.ErrNone)
	wantMix(t, "no part of one", []api.Supply{gas(50, 50, 0, 0), gas(50, 50, 1, 9)}, 1, 0, 99, 9, 0, 1)
	wantMix(t, "gas of no heat", []api.Supply{gas(0, 0, 2, 1)}, 2, 0, 0, 2, 2)
	wantMix(t, "oil that is free", []api.Supply{oil(1, 1, 20, 0), gas(9, 9, 2, 5), oil(0, 0, 20, 0)}, 2, 0, 99, 10, 0, 2, 0)
	wantMix(t, "oil that is free, and needed", []api.Supply{oil(1, 1, 20, 0), gas(9, 9, 2, 5), oil(0, 0, 20, 0)}, 2, 11, 99, 10, 4, 2, 0)
	wantMix(t, "cold gas in which much oil is burnt", []api.Supply{gas(60, 60, 9, 100), gas(0, 5, 9, 1), oil(20, 20, 20, 3)}, 4, 60, 70, 40, 0, 4, 12)
}

// TestFirstOfEqualMixtures checks that of several that cost the same the first one in lexicographic order is told.
func TestFirstOfEqualMixtures(t *testing.T) {
	same := gas(9, 9, 2, 1)
	wantMix(t, "any two", []api.Supply{same, same}, 2, 9, 9, 2, 0, 2)
	wantMix(t, "any three", []api.Supply{same, same}, 3, 9, 9, 3, 1, 2)
	wantMix(t, "any two of four", []api.Supply{same, same, same, same}, 2, 9, 9, 2, 0, 0, 0, 2)
	wantMix(t, "any five of four", []api.Supply{same, same, same, same}, 5, 9, 9, 5, 0, 1, 2, 2)
	wantMix(t, "all of four", []api.Supply{same, same, same, same}, 8, 9, 9, 8, 2, 2, 2, 2)
	wantMix(t, "one dear part or two cheap ones", []api.Supply{oil(8, 8, 4, 6), gas(1, 1, 1, 1), oil(4, 4, 4, 3)}, 1, 9, 99, 7, 0, 1, 2)
	wantMix(t, "the other order", []api.Supply{oil(4, 4, 4, 3), gas(1, 1, 1, 1), oil(8, 8, 4, 6)}, 1, 9, 99, 7, 0, 1, 1)
	wantMix(t, "a farthing less for the last in the order", []api.Supply{oil(8, 8, 4, 5), gas(1, 1, 1, 1), oil(4, 4, 4, 3)}, 1, 9, 99, 6, 1, 1, 0)
	wantMix(t, "all is free", []api.Supply{gas(1, 3, 20, 0), gas(2, 2, 20, 0), oil(1, 1, 20, 0)}, 10, 2, 3, 0, 0, 10, 0)
}

// TestGreatestMixtures checks supplies of which all numbers are at their limits.
func TestGreatestMixtures(t *testing.T) {
	big := gas(api.MaxHeat, api.MaxHeat, 20, 1_000_000)
	wantMix(t, "all", []api.Supply{big, big, big, big}, 80, api.MaxHeat, api.MaxHeat, 80_000_000, 20, 20, 20, 20)
	wantMix(t, "all but one", []api.Supply{big, big, big, big}, 79, api.MaxHeat, api.MaxHeat, 79_000_000, 19, 20, 20, 20)
	wantNoMix(t, "not so many supplies", []api.Supply{big, big, big}, 61, 0, api.MaxHeat, api.ErrNone)
	wide := gas(0, api.MaxHeat, 20, 1_000_000)
	wantMix(t, "of any heat", []api.Supply{wide, wide, wide, wide}, 80, 0, api.MaxHeat, 80_000_000, 20, 20, 20, 20)
	wantNoMix(t, "it can be too cold", []api.Supply{wide, wide, wide, wide}, 80, 1, api.MaxHeat, api.ErrNone)
	wantNoMix(t, "it can be too hot", []api.Supply{wide, wide, wide, wide}, 80, 0, api.MaxHeat-1, api.ErrNone)
}

// TestWindows checks which tests are in the window of an hour.
func TestWindows(t *testing.T) {
	d := api.Decree{Window: 5, Declared: 10, Pay: 1}
	l := []api.Test{test(20, 0, 8, 8)}
	for _, hour := range []int{20, 21, 24} {
		wantKept(t, "in the window", d, l, hour, api.Never, span(2, 2))
	}
	for _, hour := range []int{0, 19, 25, 26, 1 << 20} {
		wantNotKept(t, "not in the window", d, l, hour, api.ErrNone)
	}
	d.Window = 1
	wantKept(t, "a window of one hour", d, l, 20, api.Never, span(2, 2))
	wantNotKept(t, "the hour before it", d, l, 19, api.ErrNone)
	wantNotKept(t, "the hour after it", d, l, 21, api.ErrNone)
	d.Window = api.MaxPeriod
	wantKept(t, "a long window", d, l, 20, api.Never, span(2, 2))
	wantKept(t, "the last hour of a long window", d, l, 20+api.MaxPeriod-1, api.Never, span(2, 2))
	wantNotKept(t, "the hour after a long window", d, l, 20+api.MaxPeriod, api.ErrNone)
	l = []api.Test{test(1<<20, 15, 8, 8), test(0, 15, 7, 7)}
	wantKept(t, "the first hour", d, l, 0, api.Never, span(3, 3))
	wantKept(t, "the last hour", d, l, 1<<20, api.Never, span(2, 2))
	wantNotKept(t, "no test at all", d, nil, 5, api.ErrNone)
	wantNotKept(t, "no test at all", d, []api.Test{}, 5, api.ErrNone)
}

// TestTestsTogether checks that tests of a window count together, also those of the same hour and station.
func TestTestsTogether(t *testing.T) {
	d := api.Decree{Window: 5, Declared: 10, Pay: 4}
	l := []api.Test{test(9, 3, 7, 9), test(5, 2, 11, 12)}
	wantKept(t, "the first one", d, l, 5, api.Always, span(0, 0))
	wantKept(t, "both of them", d, l, 9, api.Maybe, span(0, 4))
	wantKept(t, "the last one", d, l, 10, api.Never, span(4, 12))
	wantKept(t, "one of them twice", d, append(l, l[0]), 9, api.Maybe, span(0, 7))
	wantKept(t, "the other one twice", d, append(l, l[1]), 9, api.Maybe, span(0, 2))
	wantKept(t, "the same hour", d, []api.Test{test(5, 2, 10, 10), test(5, 2, 8, 8)}, 5, api.Never, span(4, 4))
}

// TestWhatMustBe checks sums that are just enough, or just too little.
func TestWhatMustBe(t *testing.T) {
	d := api.Decree{Window: 5, Declared: 12, Slack: 2, Pay: 3}
	for _, c := range []struct {
		lo, hi, kept int
		due          api.Span
	}{
		{10, 10, api.Always, span(0, 0)}, {10, 99, api.Always, span(0, 0)}, {9, 10, api.Maybe, span(0, 3)}, {9, 9, api.Never, span(3, 3)},
		{0, 9, api.Never, span(3, 30)}, {0, 10, api.Maybe, span(0, 30)}, {11, 12, api.Always, span(0, 0)}, {0, api.MaxHeat, api.Maybe, span(0, 30)},
	} {
		wantKept(t, "one test", d, []api.Test{test(0, 0, c.lo, c.hi)}, 0, c.kept, c.due)
		wantKept(t, "two tests", d, []api.Test{test(0, 0, c.lo, c.hi), test(4, 1, c.lo, c.hi)}, 4, c.kept, c.due)
		wantKept(t, "a test more that lacks nothing", d, []api.Test{test(0, 0, c.lo, c.hi), test(4, 1, 10, 10)}, 4, c.kept, span((c.due.Lo+1)/2, (c.due.Hi+1)/2))
	}
	d.Slack = d.Declared
	wantKept(t, "all may lack", d, []api.Test{test(0, 0, 0, 0)}, 0, api.Always, span(0, 0))
	d.Declared, d.Slack = 0, 0
	wantKept(t, "nothing is declared", d, []api.Test{test(0, 0, 0, 0)}, 0, api.Always, span(0, 0))
}

// TestRoundedUp checks what is due where the number of tests does not divide it.
func TestRoundedUp(t *testing.T) {
	three := []api.Test{test(1, 0, 8, 9), test(1, 1, 10, 10), test(2, 0, 10, 10)}
	for pay, due := range []api.Span{span(0, 0), span(1, 1), span(1, 2), span(1, 2), span(2, 3), span(2, 4), span(2, 4), span(3, 5)} {
		wantKept(t, "one or two lack, of three tests", api.Decree{Window: 2, Declared: 10, Pay: pay}, three, 2, api.Never, due)
	}
	d := api.Decree{Window: 9, Declared: 10, Pay: 5}
	wantKept(t, "half a farthing", d, []api.Test{test(1, 0, 8, 8), test(1, 0, 9, 9)}, 1, api.Never, span(8, 8))
	wantKept(t, "whole farthings", d, []api.Test{test(1, 0, 8, 8), test(1, 0, 8, 8)}, 1, api.Never, span(10, 10))
	d.Pay = 0
	wantKept(t, "nothing is paid", d, []api.Test{test(1, 0, 8, 8), test(1, 0, 9, 9)}, 1, api.Never, span(0, 0))
}

func TestGreatestDue(t *testing.T) {
	d := api.Decree{Window: api.MaxPeriod, Declared: api.MaxHeat, Pay: 1_000_000}
	l := slices.Repeat([]api.Test{test(1<<20, 15, 0, api.MaxHeat)}, 32)
	wantKept(t, "all can lack", d, l, 1<<20, api.Maybe, span(0, 10_000_000_000))
	l[7].Heat.Hi--
	wantKept(t, "one surely lacks", d, l, 1<<20, api.Never, span(31_250, 10_000_000_000))
}

func TestWorstHours(t *testing.T) {
	d := api.Decree{Window: 6, Declared: 45, Pay: 1}
	never, maybe, always := span(40, 44), span(40, 50), span(45, 50)
	// The heats are of the hours 0, 10 and so on, so that each is alone in its window.
	for _, c := range []struct {
		heats      []api.Span
		hour, kept int
	}{
		{[]api.Span{always}, 0, api.Always}, {[]api.Span{maybe}, 0, api.Maybe}, {[]api.Span{never}, 0, api.Never},
		{[]api.Span{always, always, always}, 0, api.Always}, {[]api.Span{always, maybe, always}, 10, api.Maybe}, {[]api.Span{always, maybe, maybe}, 10, api.Maybe},
		{[]api.Span{maybe, always, never}, 20, api.Never}, {[]api.Span{maybe, never, never}, 10, api.Never}, {[]api.Span{never, never, maybe}, 0, api.Never},
	} {
		var l []api.Test
		for i, s := range c.heats {
			l = append(l, api.Test{Hour: 10 * i, Heat: s})
		}
		wantWorst(t, "hour by hour", d, l, c.hour, c.kept, api.OK)
		slices.Reverse(l)
		wantWorst(t, "the last hour first", d, l, c.hour, c.kept, api.OK)
	}
	wantWorst(t, "no test", d, nil, 0, 0, api.ErrNone)
	wantWorst(t, "no test", d, []api.Test{}, 0, 0, api.ErrNone)
	wantWorst(t, "the last hour", d, []api.Test{test(1<<20, 0, 45, 45)}, 1<<20, api.Always, api.OK)
}

// TestWorstWindows checks hours in whose windows there are several tests.
func TestWorstWindows(t *testing.T) {
	d := api.Decree{Window: 6, Declared: 45, Pay: 1}
	wantWorst(t, "a good test before", d, []api.Test{test(0, 0, 50, 50), test(5, 0, 40, 40)}, 0, api.Always, api.OK)
	wantWorst(t, "a good test too long before", d, []api.Test{test(0, 0, 50, 50), test(6, 0, 40, 40)}, 6, api.Never, api.OK)
	wantWorst(t, "a good test after", d, []api.Test{test(0, 0, 40, 40), test(5, 0, 50, 50)}, 0, api.Never, api.OK)
	wantWorst(t, "in the same hour", d, []api.Test{test(5, 0, 40, 40), test(5, 1, 50, 50)}, 5, api.Always, api.OK)
	wantWorst(t, "in the same hour, and too little", d, []api.Test{test(4, 0, 45, 46), test(5, 0, 40, 40), test(5, 1, 50, 50), test(5, 2, 43, 43)}, 5, api.Never, api.OK)
}

func TestMissedPeriods(t *testing.T) {
	l := []api.Test{test(20, 0, 0, 0)}
	wantMissed(t, "just after the first period", l, 1, 5, span(15, 99), 19, 0, api.OK)
	wantMissed(t, "just in the first period", l, 1, 5, span(16, 99), 25, 0, api.OK)
	wantMissed(t, "in its first hour", l, 1, 5, span(20, 99), 25, 0, api.OK)
	wantMissed(t, "just before it", l, 1, 5, span(21, 99), 25, 0, api.OK)
	wantMissed(t, "up to its last hour", l, 1, 5, span(16, 24), 0, 0, api.ErrNone)
	wantMissed(t, "an hour more", l, 1, 5, span(16, 25), 25, 0, api.OK)
	wantMissed(t, "less than a period", nil, 1, 5, span(16, 19), 0, 0, api.ErrNone)
	wantMissed(t, "just a period", nil, 1, 5, span(16, 20), 20, 0, api.OK)
	wantMissed(t, "just a period", []api.Test{}, 1, 5, span(16, 20), 20, 0, api.OK)
	wantMissed(t, "periods of one hour", l, 1, 1, span(20, 21), 21, 0, api.OK)
	wantMissed(t, "an hour with a test", l, 1, 1, span(20, 20), 0, 0, api.ErrNone)
	wantMissed(t, "an hour without one", l, 1, 1, span(19, 20), 19, 0, api.OK)
	wantMissed(t, "the hour 0", nil, 16, 1, span(0, 0), 0, 0, api.OK)
	wantMissed(t, "the last hour", nil, 16, 1, span(1<<20, 1<<20), 1<<20, 0, api.OK)
	wantMissed(t, "the longest period", nil, 1, 10000, span(0, 1<<20), 9999, 0, api.OK)
	wantMissed(t, "the last period", nil, 1, 10000, span(1<<20-9999, 1<<20), 1<<20, 0, api.OK)
	wantMissed(t, "beyond the last period", nil, 1, 10000, span(1<<20-9998, 1<<20), 0, 0, api.ErrNone)
}

// TestTestsInAnyOrder checks that a station is followed from test to test, whatever their order in the list is.
func TestTestsInAnyOrder(t *testing.T) {
	for _, hours := range [][]int{{3, 8, 13, 17, 22}, {22, 17, 13, 8, 3}, {17, 3, 22, 13, 8, 3}} {
		var l []api.Test
		for _, hour := range hours {
			l = append(l, test(hour, 1, 5, 5), test(hour, 0, 5, 5))
		}
		wantMissed(t, "nothing until the last test is too old", l, 2, 5, span(0, 99), 27, 0, api.OK)
		wantMissed(t, "nothing before", l, 2, 5, span(0, 26), 0, 0, api.ErrNone)
		wantMissed(t, "an hour less", l, 2, 4, span(0, 99), 7, 0, api.OK)
		wantMissed(t, "an hour less, later", l, 2, 4, span(5, 99), 12, 0, api.OK)
		wantMissed(t, "an hour less, later still", l, 2, 4, span(10, 99), 21, 0, api.OK)
	}
}

func TestMissedStations(t *testing.T) {
	var l []api.Test
	for station := range 16 {
		l = append(l, test(20-station, station, 5, 5))
	}
	wantMissed(t, "each once", l, 16, 20, span(1, 99), 25, 15, api.OK)
	wantMissed(t, "but for the last one", l, 15, 20, span(1, 99), 26, 14, api.OK)
	wantMissed(t, "only the first one", l, 1, 20, span(1, 99), 40, 0, api.OK)
	wantMissed(t, "the last one just in time", l, 16, 16, span(5, 20), 0, 0, api.ErrNone)
	wantMissed(t, "the last one too early", l, 16, 16, span(6, 99), 21, 15, api.OK)
	wantMissed(t, "the last two too early", l, 16, 15, span(7, 99), 21, 14, api.OK)
	wantMissed(t, "all too late", l, 16, 3, span(0, 99), 2, 0, api.OK)
	wantMissed(t, "none of the station 2", append(l[:2:2], l[3:]...), 16, 20, span(1, 99), 20, 2, api.OK)
	wantMissed(t, "only one that is not asked for", []api.Test{test(20, 1, 5, 5)}, 1, 5, span(16, 99), 20, 0, api.OK)
	wantMissed(t, "the later station first", []api.Test{test(20, 0, 5, 5), test(19, 1, 5, 5)}, 2, 5, span(16, 99), 24, 1, api.OK)
	wantMissed(t, "both in the same hour", []api.Test{test(20, 1, 5, 5), test(20, 0, 5, 5)}, 2, 5, span(16, 99), 25, 0, api.OK)
}
