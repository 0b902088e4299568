package scale_test

import (
	"slices"
	"testing"

	"gasworks/api"
	"gasworks/scale"
)

// example returns the act of the chapter's examples.
func example() api.Act {
	return api.Act{Price: 48, Dividend: 1000, Step: 4, Gain: 25, Most: 500, Back: 1}
}

// changed returns the act of the examples, changed.
func changed(f func(a *api.Act)) api.Act {
	a := example()
	f(&a)
	return a
}

// back returns the act of the examples, with arrears that can be made up for so many years.
func back(years int) api.Act {
	return changed(func(a *api.Act) { a.Back = years })
}

func year(price, capital, profit int) api.Year {
	return api.Year{Price: price, Capital: capital, Profit: profit}
}

// owing returns a year at the price of the examples in which so much is due.
func owing(due, profit int) api.Year { return year(48, 10*due, profit) }

func payment(rate, due, paid, arrears, reserve, rebate int) api.Payment {
	return api.Payment{Rate: rate, Due: due, Paid: paid, Arrears: arrears, Reserve: reserve, Rebate: rebate}
}

// years returns those of the chapter's examples.
func years() []api.Year {
	return []api.Year{year(44, 10_000, 900), year(48, 10_000, 1300), year(40, 8000, 1500), year(53, 8000, -600), year(53, 8000, 100)}
}

// payments returns what the years of the examples come to.
func payments() []api.Payment {
	return []api.Payment{payment(1025, 1025, 900, 125, 0, 0), payment(1000, 1000, 1125, 0, 175, 0), payment(1050, 840, 840, 0, 500, 335), payment(950, 760, 0, 760, -100, 0), payment(950, 760, 0, 760, 0, 0)}
}

func wantRate(t *testing.T, name string, a api.Act, price, want int, e api.Errno) {
	t.Helper()
	if n, got := scale.Rate(a, price); n != want || got != e {
		t.Errorf("%s: Rate of %v, %d = %d, error %d; want %d, error %d", name, a, price, n, got, want, e)
	}
}

func wantDearest(t *testing.T, name string, a api.Act, rate, want int, e api.Errno) {
	t.Helper()
	if n, got := scale.Dearest(a, rate); n != want || got != e {
		t.Errorf("%s: Dearest of %v, %d = %d, error %d; want %d, error %d", name, a, rate, n, got, want, e)
	}
}

func wantRun(t *testing.T, name string, a api.Act, l []api.Year, want ...api.Payment) {
	t.Helper()
	if p, e := scale.Run(a, l); !slices.Equal(p, want) || e != api.OK {
		t.Errorf("%s: Run of %v, %v = %v, error %d; want %v", name, a, l, p, e, want)
	}
}

func wantNotRun(t *testing.T, name string, a api.Act, l []api.Year, e api.Errno) {
	t.Helper()
	if p, got := scale.Run(a, l); len(p) != 0 || got != e {
		t.Errorf("%s: Run of %v, %v = %v, error %d; want error %d", name, a, l, p, got, e)
	}
}

func wantCheck(t *testing.T, name string, a api.Act, l []api.Year, p []api.Payment, want int, e api.Errno) {
	t.Helper()
	if n, got := scale.Check(a, l, p); n != want || got != e {
		t.Errorf("%s: Check of %v, %v, %v = %d, error %d; want %d, error %d", name, a, l, p, n, got, want, e)
	}
}

func wantNeeded(t *testing.T, name string, a api.Act, l []api.Year, year, want int, e api.Errno) {
	t.Helper()
	if n, got := scale.Needed(a, l, year); n != want || got != e {
		t.Errorf("%s: Needed of %v, %v, %d = %d, error %d; want %d, error %d", name, a, l, year, n, got, want, e)
	}
}

func TestExamples(t *testing.T) {
	for price, rate := range map[int]int{48: 1000, 44: 1025, 45: 1000, 49: 975, 40: 1050, 53: 950} {
		wantRate(t, "example", example(), price, rate, api.OK)
	}
	for rate, price := range map[int]int{1000: 48, 1026: 40, 950: 56, 0: 100_000} {
		wantDearest(t, "example", example(), rate, price, api.OK)
	}
	wantRun(t, "example", example(), years(), payments()...)
	wantCheck(t, "example", example(), years(), payments(), 5, api.OK)
	for year, profit := range map[int]int{1: 1125, 3: 260, 4: 1620} {
		wantNeeded(t, "example", example(), years(), year, profit, api.OK)
	}
}

// TestSteps checks that only whole steps count for a cheaper price, and for a dearer one each that has begun.
func TestSteps(t *testing.T) {
	for _, c := range []struct{ first, last, rate int }{
		{45, 48, 1000}, {41, 44, 1025}, {37, 40, 1050}, {1, 4, 1275}, {0, 0, 1300},
		{49, 52, 975}, {53, 56, 950}, {57, 60, 925}, {201, 204, 25}, {205, 208, 0},
	} {
		for price := c.first; price <= c.last; price++ {
			wantRate(t, "a step of 4", example(), price, c.rate, api.OK)
		}
		wantDearest(t, "a step of 4", example(), c.rate, max(c.last, 100_000*max(0, 1-c.rate)), api.OK)
	}
	one := changed(func(a *api.Act) { a.Step = 1 })
	for price := range 80 {
		wantRate(t, "a step of 1", one, price, 1000+25*(48-price), api.OK)
		wantDearest(t, "a step of 1", one, 1000+25*(48-price), price, api.OK)
		wantDearest(t, "one more", one, 1001+25*(48-price), max(0, price-1), map[bool]api.Errno{true: api.ErrNone}[price == 0])
	}
	large := changed(func(a *api.Act) { a.Step = 100_000 })
	for price, rate := range map[int]int{0: 1000, 47: 1000, 48: 1000, 49: 975, 50: 975, 100_000: 975} {
		wantRate(t, "a step of all prices", large, price, rate, api.OK)
	}
	large.Price = 100_000
	for price, rate := range map[int]int{0: 1025, 1: 1000, 2: 1000, 100_000: 1000} {
		wantRate(t, "a step of all prices, from the dearest", large, price, rate, api.OK)
	}
	large.Price = 0
	for price, rate := range map[int]int{0: 1000, 1: 975, 2: 975, 100_000: 975} {
		wantRate(t, "a step of all prices, from nothing", large, price, rate, api.OK)
	}
}

// TestBoundsOfRates checks that no rate is below 0, nor above MaxDividend.
func TestBoundsOfRates(t *testing.T) {
	steep := changed(func(a *api.Act) { a.Gain = 4000 })
	for price, rate := range map[int]int{0: 10_000, 36: 10_000, 37: 9000, 40: 9000, 41: 5000, 44: 5000, 45: 1000, 48: 1000, 49: 0, 100_000: 0} {
		wantRate(t, "steep", steep, price, rate, api.OK)
	}
	for rate, price := range map[int]int{10_000: 36, 9001: 36, 9000: 40, 8999: 40, 5000: 44, 1001: 44, 1000: 48, 1: 48, 0: 100_000} {
		wantDearest(t, "steep", steep, rate, price, api.OK)
	}
	exact := changed(func(a *api.Act) { a.Dividend, a.Gain = 5000, 2500 })
	for price, rate := range map[int]int{0: 10_000, 40: 10_000, 41: 7500, 52: 2500, 53: 0, 57: 0} {
		wantRate(t, "exact", exact, price, rate, api.OK)
	}
	for rate, price := range map[int]int{10_000: 40, 7501: 40, 7500: 44, 1: 52, 0: 100_000} {
		wantDearest(t, "exact", exact, rate, price, api.OK)
	}
	farthest := api.Act{Price: 100_000, Dividend: 10_000, Step: 1, Gain: 10_000}
	wantRate(t, "the cheapest", farthest, 0, 10_000, api.OK)
	wantRate(t, "the dearest", farthest, 100_000, 10_000, api.OK)
	wantDearest(t, "the greatest", farthest, 10_000, 100_000, api.OK)
	farthest.Price = 0
	wantRate(t, "the cheapest", farthest, 0, 10_000, api.OK)
	wantRate(t, "dearer", farthest, 1, 0, api.OK)
	wantRate(t, "the dearest", farthest, 100_000, 0, api.OK)
	wantDearest(t, "the greatest", farthest, 10_000, 0, api.OK)
	wantDearest(t, "the least", farthest, 1, 0, api.OK)
	wantDearest(t, "none", farthest, 0, 100_000, api.OK)
}

// TestNoGain checks acts whose rate is the same for all prices.
func TestNoGain(t *testing.T) {
	for _, dividend := range []int{0, 1, 1000, 9999, 10_000} {
		flat := changed(func(a *api.Act) { a.Dividend, a.Gain = dividend, 0 })
		for _, price := range []int{0, 1, 47, 48, 49, 99_999, 100_000} {
			wantRate(t, "flat", flat, price, dividend, api.OK)
		}
		wantDearest(t, "flat", flat, dividend, 100_000, api.OK)
		wantDearest(t, "flat", flat, 0, 100_000, api.OK)
		if dividend < 10_000 {
			wantDearest(t, "flat", flat, dividend+1, 0, api.ErrNone)
			wantDearest(t, "flat", flat, 10_000, 0, api.ErrNone)
		}
	}
}

// TestDearestOfNone checks the greatest rates that some price still has.
func TestDearestOfNone(t *testing.T) {
	wantDearest(t, "of free gas", example(), 1300, 0, api.OK)
	wantDearest(t, "of free gas", example(), 1276, 0, api.OK)
	wantDearest(t, "not of free gas only", example(), 1275, 4, api.OK)
	wantDearest(t, "of no gas", example(), 1301, 0, api.ErrNone)
	wantDearest(t, "of no gas", example(), 10_000, 0, api.ErrNone)
	free := changed(func(a *api.Act) { a.Price = 0 })
	wantDearest(t, "of free gas", free, 1000, 0, api.OK)
	wantDearest(t, "of dearer gas", free, 975, 4, api.OK)
	wantDearest(t, "of no gas", free, 1001, 0, api.ErrNone)
}

// TestDueIsRoundedDown checks capitals of which the rate is no whole number of farthings.
func TestDueIsRoundedDown(t *testing.T) {
	for _, c := range []struct{ price, capital, rate, due int }{
		{48, 0, 1000, 0}, {48, 9, 1000, 0}, {48, 10, 1000, 1}, {48, 19, 1000, 1}, {48, 20, 1000, 2}, {44, 9999, 1025, 1024}, {44, 97, 1025, 9}, {44, 98, 1025, 10}, {53, 999, 950, 94}, {208, 1 << 40, 0, 0},
		{48, 1 << 40, 1000, 109_951_162_777}, {48, 1<<40 - 7, 1000, 109_951_162_776}, {0, 1 << 40, 1300, 142_936_511_610},
	} {
		wantRun(t, "rounded down", example(), []api.Year{year(c.price, c.capital, 0)}, payment(c.rate, c.due, 0, c.due, 0, 0))
	}
	whole := api.Act{Dividend: 10_000, Step: 1, Most: 1 << 40}
	wantRun(t, "all of it", whole, []api.Year{year(7, 1<<40, 1<<40), year(7, 1<<40-1, 1<<40)}, payment(10_000, 1<<40, 1<<40, 0, 0, 0), payment(10_000, 1<<40-1, 1<<40-1, 0, 1, 0))
	// An even lesser number would be due if what was due were rounded before it was divided.
	wantRun(t, "only once", changed(func(a *api.Act) { a.Dividend = 3333 }), []api.Year{year(48, 29_999, 0)}, payment(3333, 9998, 0, 9998, 0, 0))
}

// TestPaid checks that no more is paid than there is, nor than is due and owed.
func TestPaid(t *testing.T) {
	for _, c := range []struct{ profit, paid, arrears, reserve, rebate int }{
		{-600, 0, 100, -600, 0}, {-1, 0, 100, -1, 0}, {0, 0, 100, 0, 0}, {1, 1, 99, 0, 0}, {99, 99, 1, 0, 0},
		{100, 100, 0, 0, 0}, {101, 100, 0, 1, 0}, {599, 100, 0, 499, 0}, {600, 100, 0, 500, 0}, {601, 100, 0, 500, 1}, {900, 100, 0, 500, 300},
	} {
		wantRun(t, "the first year", example(), []api.Year{owing(100, c.profit)}, payment(1000, 100, c.paid, c.arrears, c.reserve, c.rebate))
	}
}

// TestDebtComesFirst checks that profits pay a debt off before anything is paid out.
func TestDebtComesFirst(t *testing.T) {
	for _, c := range []struct{ profit, paid, arrears, reserve, rebate int }{
		{-50, 0, 30, -350, 0}, {0, 0, 30, -300, 0}, {299, 0, 30, -1, 0}, {300, 0, 30, 0, 0}, {301, 1, 29, 0, 0}, {330, 30, 0, 0, 0}, {331, 31, 0, 0, 0}, {430, 130, 0, 0, 0}, {431, 130, 0, 1, 0}, {930, 130, 0, 500, 0}, {931, 130, 0, 500, 1},
	} {
		wantRun(t, "after a debt", example(), []api.Year{owing(100, -300), owing(30, c.profit)}, payment(1000, 100, 0, 100, -300, 0), payment(1000, 30, c.paid, c.arrears, c.reserve, c.rebate))
	}
}

// TestReserve checks that a reserve pays what a poor year does not earn, and that what is too much in it goes back.
func TestReserve(t *testing.T) {
	l := []api.Year{owing(0, 700), owing(300, 0), owing(300, 50), owing(300, 1000)}
	wantRun(t, "a reserve", example(), l, payment(1000, 0, 0, 0, 500, 200), payment(1000, 300, 300, 0, 200, 0), payment(1000, 300, 250, 50, 0, 0), payment(1000, 300, 350, 0, 500, 150))
	wantRun(t, "no reserve", changed(func(a *api.Act) { a.Most = 0 }), l, payment(1000, 0, 0, 0, 0, 700), payment(1000, 300, 0, 300, 0, 0), payment(1000, 300, 50, 250, 0, 0), payment(1000, 300, 550, 0, 0, 450))
	wantRun(t, "any reserve", changed(func(a *api.Act) { a.Most = 1 << 40 }), l, payment(1000, 0, 0, 0, 700, 0), payment(1000, 300, 300, 0, 400, 0), payment(1000, 300, 300, 0, 150, 0), payment(1000, 300, 300, 0, 850, 0))
	wantRun(t, "a loss takes it", example(), []api.Year{owing(10, 400), owing(10, -380), owing(10, -20)}, payment(1000, 10, 10, 0, 390, 0), payment(1000, 10, 10, 0, 0, 0), payment(1000, 10, 0, 10, -20, 0))
}

// TestArrearsOfSomeYears checks for how many years arrears can be made up.
func TestArrearsOfSomeYears(t *testing.T) {
	l := []api.Year{owing(1, 0), owing(10, 0), owing(100, 0), owing(1000, 0), owing(10_000, 0), owing(100_000, 0), owing(0, 0)}
	dues := []int{1, 10, 100, 1000, 10_000, 100_000, 0}
	for years, arrears := range [][]int{
		{0, 0, 0, 0, 0, 0, 0},
		{1, 10, 100, 1000, 10_000, 100_000, 0},
		{1, 11, 110, 1100, 11_000, 110_000, 100_000},
		{1, 11, 111, 1110, 11_100, 111_000, 110_000},
		{1, 11, 111, 1111, 11_110, 111_100, 111_000},
		{1, 11, 111, 1111, 11_111, 111_110, 111_100},
	} {
		var want []api.Payment
		for i, n := range arrears {
			want = append(want, payment(1000, dues[i], 0, n, 0, 0))
		}
		wantRun(t, "nothing is earned", back(years), l, want...)
		for i, due := range dues {
			owed := due
			if i > 0 {
				owed += arrears[i-1]
			}
			wantNeeded(t, "nothing is earned", back(years), l, i, owed, map[bool]api.Errno{true: api.ErrNone}[owed == 0])
		}
	}
}

// TestOldestFirst checks which arrears are made up, by what is gone in the years after.
func TestOldestFirst(t *testing.T) {
	l := []api.Year{owing(100, 0), owing(200, 0), owing(300, 0), owing(50, 0), owing(0, 0), owing(0, 0), owing(0, 0)}
	for _, c := range []struct {
		profit int
		left   []int
	}{
		{0, []int{550, 350, 50, 0}}, {50, []int{500, 300, 0, 0}}, {51, []int{500, 300, 0, 0}}, {150, []int{500, 300, 0, 0}}, {151, []int{499, 300, 0, 0}}, {349, []int{301, 300, 0, 0}}, {350, []int{300, 300, 0, 0}}, {351, []int{299, 299, 0, 0}}, {649, []int{1, 1, 0, 0}}, {650, []int{0, 0, 0, 0}}, {49, []int{501, 301, 1, 0}},
	} {
		l[3].Profit = c.profit
		want := []api.Payment{payment(1000, 100, 0, 100, 0, 0), payment(1000, 200, 0, 300, 0, 0), payment(1000, 300, 0, 600, 0, 0), payment(1000, 50, c.profit, c.left[0], 0, 0)}
		for _, n := range c.left[1:] {
			want = append(want, payment(1000, 0, 0, n, 0, 0))
		}
		wantRun(t, "what is gone", back(3), l, want...)
	}
}

// TestArrearsArePaidByParts checks arrears that are made up in several years.
func TestArrearsArePaidByParts(t *testing.T) {
	l := []api.Year{owing(100, 0), owing(100, 150), owing(100, 130), owing(100, 120), owing(100, 1000)}
	wantRun(t, "by parts", back(5), l, payment(1000, 100, 0, 100, 0, 0), payment(1000, 100, 150, 50, 0, 0), payment(1000, 100, 130, 20, 0, 0), payment(1000, 100, 120, 0, 0, 0), payment(1000, 100, 100, 0, 500, 400))
	wantRun(t, "too late", back(1), l, payment(1000, 100, 0, 100, 0, 0), payment(1000, 100, 150, 0, 0, 0), payment(1000, 100, 100, 0, 30, 0), payment(1000, 100, 100, 0, 50, 0), payment(1000, 100, 100, 0, 500, 450))
	wantRun(t, "at once or never", back(0), l, payment(1000, 100, 0, 0, 0, 0), payment(1000, 100, 100, 0, 50, 0), payment(1000, 100, 100, 0, 80, 0), payment(1000, 100, 100, 0, 100, 0), payment(1000, 100, 100, 0, 500, 500))
}

func TestNeeded(t *testing.T) {
	wantNeeded(t, "the first year", example(), years(), 0, 1025, api.OK)
	wantNeeded(t, "a reserve", example(), years(), 2, 665, api.OK)
	wantNeeded(t, "nothing is due", example(), []api.Year{year(48, 9, 0)}, 0, 0, api.ErrNone)
	wantNeeded(t, "a farthing is due", example(), []api.Year{year(48, 10, 0)}, 0, 1, api.OK)
	wantNeeded(t, "nothing is due, and there is a debt", example(), []api.Year{owing(0, -100), owing(0, 0)}, 1, 0, api.ErrNone)
	wantNeeded(t, "a farthing is due, and there is a debt", example(), []api.Year{owing(0, -100), owing(1, 0)}, 1, 101, api.OK)
	wantNeeded(t, "there is enough", example(), []api.Year{owing(0, 500), owing(10, 0)}, 1, -490, api.OK)
	wantNeeded(t, "there is just enough", example(), []api.Year{owing(0, 500), owing(500, 0)}, 1, 0, api.OK)
	wantNeeded(t, "nothing is due, but there are arrears", example(), []api.Year{owing(70, 30), owing(0, 0)}, 1, 40, api.OK)
	wantNeeded(t, "nothing is due, and arrears are gone", example(), []api.Year{owing(70, 30), owing(0, 0), owing(0, 0)}, 2, 0, api.ErrNone)
	wantNeeded(t, "its own profit makes no difference", example(), []api.Year{owing(70, 30), owing(5, -1<<40)}, 1, 45, api.OK)
}

// TestNeededBeyondProfits checks that more can be needed than a year can earn, and that a greater loss can be borne than it can make.
func TestNeededBeyondProfits(t *testing.T) {
	const most = api.MaxPay
	whole := api.Act{Dividend: 10_000, Step: 1, Most: most, Back: 5}
	l := slices.Repeat([]api.Year{year(0, most, -most)}, 16)
	for i := range l {
		wantNeeded(t, "the greatest losses", whole, l, i, (min(i, 5)+1+i)*most, api.OK)
	}
	wantNeeded(t, "the greatest reserve", whole, []api.Year{year(0, 0, most), year(0, 1, 0)}, 1, 1-most, api.OK)
	wantRun(t, "the greatest reserve", whole, slices.Repeat([]api.Year{year(0, 0, most)}, 3), payment(10_000, 0, 0, 0, most, 0), payment(10_000, 0, 0, 0, most, most), payment(10_000, 0, 0, 0, most, most))
	var want []api.Payment
	for i := range l {
		want = append(want, payment(10_000, most, 0, min(i+1, 5)*most, -(i+1)*most, 0))
	}
	wantRun(t, "the greatest losses", whole, l, want...)
}

// TestCheck checks each change of a payment, and payments that are too many or too few.
func TestCheck(t *testing.T) {
	for i := range years() {
		for _, by := range []int{-1, 1, 1 << 40} {
			for _, at := range []func(p *api.Payment) *int{func(p *api.Payment) *int { return &p.Rate }, func(p *api.Payment) *int { return &p.Due }, func(p *api.Payment) *int { return &p.Paid }, func(p *api.Payment) *int { return &p.Arrears }, func(p *api.Payment) *int { return &p.Reserve }, func(p *api.Payment) *int { return &p.Rebate }} {
				p := payments()
				*at(&p[i]) += by
				wantCheck(t, "a wrong number", example(), years(), p, i, api.ErrRefuse)
				wantCheck(t, "a wrong number, and one too many", example(), years(), append(p, api.Payment{}), i, api.ErrRefuse)
				wantCheck(t, "a wrong number at the end", example(), years(), p[:i+1], i, api.ErrRefuse)
				wantCheck(t, "before a wrong number", example(), years(), p[:i], i, api.ErrNone)
				p[4].Rate -= 7
				wantCheck(t, "two wrong numbers", example(), years(), p, i, api.ErrRefuse)
			}
		}
		wantCheck(t, "too few", example(), years(), payments()[:i], i, api.ErrNone)
		wantCheck(t, "too few years", example(), years()[:i], payments(), i, api.ErrRefuse)
		wantCheck(t, "so far", example(), years()[:i], payments()[:i], i, api.OK)
	}
	wantCheck(t, "one too many", example(), years(), append(payments(), payments()[4]), 5, api.ErrRefuse)
	wantCheck(t, "far too many", example(), years(), slices.Repeat(payments(), 100), 5, api.ErrRefuse)
	wantCheck(t, "none", example(), years(), nil, 0, api.ErrNone)
	wantCheck(t, "neither", example(), nil, nil, 0, api.OK)
	wantCheck(t, "neither", example(), []api.Year{}, []api.Payment{}, 0, api.OK)
	wantCheck(t, "no years", example(), nil, make([]api.Payment, 1), 0, api.ErrRefuse)
	wantCheck(t, "in another order", example(), years(), []api.Payment{payments()[1], payments()[0]}, 0, api.ErrRefuse)
}

func TestNoYears(t *testing.T) {
	for _, l := range [][]api.Year{nil, {}} {
		wantRun(t, "no years", example(), l)
		wantNeeded(t, "no years", example(), l, 0, 0, api.ErrRange)
		wantNeeded(t, "no years", example(), l, -1, 0, api.ErrRange)
	}
}
