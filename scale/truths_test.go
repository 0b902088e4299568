package scale_test

import (
	"math/big"
	"testing"

	"gasworks/api"
	"gasworks/scale"
)

// A dice rolls the same numbers in each run of the tests.
type dice struct{ at uint64 }

func newDice(seed uint64) *dice { return &dice{at: seed} }

func (d *dice) roll(n int) int {
	d.at = d.at*6364136223846793005 + 1442695040888963407
	return int(d.at >> 33 % uint64(n))
}

// size returns a number from 0 to a greatest one: often a small one, or the greatest.
func (d *dice) size(most int) int {
	switch d.roll(6) {
	case 0:
		return 0
	case 1:
		return most
	}
	n := 1
	for range d.roll(42) {
		n = 2*n + d.roll(2)
	}
	return n % (most + 1)
}

// anyAct returns an act of numbers of any size.
func anyAct(d *dice) api.Act {
	return api.Act{Price: d.size(api.MaxScale), Dividend: d.size(api.MaxDividend), Step: 1 + d.size(api.MaxScale-1), Gain: d.size(api.MaxDividend), Most: d.size(api.MaxPay), Back: d.roll(api.MaxBack + 1)}
}

// anyYears returns years of numbers of any size.
func anyYears(d *dice) []api.Year {
	var l []api.Year
	for range d.roll(api.MaxYears + 1) {
		l = append(l, year(d.size(api.MaxScale), d.size(api.MaxPay), d.size(api.MaxPay)-d.roll(2)*d.size(api.MaxPay)))
	}
	return l
}

// smallAct returns an act of which the years can be reckoned farthing by farthing.
func smallAct(d *dice) api.Act {
	return api.Act{Price: d.roll(60), Dividend: d.roll(3000), Step: 1 + d.roll(8), Gain: d.roll(100), Most: d.roll(2) * d.roll(60), Back: d.roll(api.MaxBack + 1)}
}

// smallYears returns years in which a few farthings are due.
func smallYears(d *dice) []api.Year {
	var l []api.Year
	for range d.roll(api.MaxYears + 1) {
		l = append(l, year(d.roll(80), d.roll(300), d.roll(70)-d.roll(30)))
	}
	return l
}

// rateOf goes from the price of the act to another one, step by step.
func rateOf(a api.Act, price int) int {
	rate := a.Dividend
	for p := a.Price - a.Step; p >= price; p -= a.Step {
		rate += a.Gain
	}
	for p := a.Price; p < price; p += a.Step {
		rate -= a.Gain
	}
	switch {
	case rate < 0:
		return 0
	case rate > api.MaxDividend:
		return api.MaxDividend
	}
	return rate
}

// TestRatesStepByStep holds Rate against steps that are taken one by one.
func TestRatesStepByStep(t *testing.T) {
	d := newDice(2)
	cheaper, dearer, bounded, between := 0, 0, 0, 0
	for range 3000 {
		a := anyAct(d)
		for range 10 {
			price := d.size(api.MaxScale)
			if d.roll(3) == 0 {
				price = max(0, min(api.MaxScale, a.Price+(d.roll(7)-3)*a.Step+d.roll(3)-1))
			}
			rate := rateOf(a, price)
			wantRate(t, "step by step", a, price, rate, api.OK)
			switch {
			case rate == 0 || rate == api.MaxDividend:
				bounded++
			case price < a.Price && rate > a.Dividend:
				cheaper++
			case price > a.Price && rate < a.Dividend:
				dearer++
			default:
				between++
			}
		}
	}
	if min(cheaper, dearer, bounded, between) < 500 {
		t.Errorf("%d rates are higher, %d lower, %d at a bound, %d that of the act", cheaper, dearer, bounded, between)
	}
}

// dearestOf looks at all prices, from the greatest one on.
func dearestOf(rates []int, rate int) (int, api.Errno) {
	for price := len(rates) - 1; price >= 0; price-- {
		if rates[price] >= rate {
			return price, api.OK
		}
	}
	return 0, api.ErrNone
}

// TestDearestOfAllPrices holds Dearest against all prices.
func TestDearestOfAllPrices(t *testing.T) {
	d := newDice(3)
	rates := make([]int, api.MaxScale+1)
	seen := map[api.Errno]int{}
	between := 0
	for range 100 {
		a := anyAct(d)
		for price := range rates {
			rates[price], _ = scale.Rate(a, price)
		}
		asked := []int{0, 1, api.MaxDividend, a.Dividend, min(api.MaxDividend, a.Dividend+1), min(api.MaxDividend, a.Dividend+a.Gain)}
		for range 10 {
			asked = append(asked, d.roll(api.MaxDividend+1), rates[d.size(api.MaxScale)])
		}
		for _, rate := range asked {
			price, e := dearestOf(rates, rate)
			wantDearest(t, "all prices", a, rate, price, e)
			seen[e]++
			if 0 < price && price < api.MaxScale {
				between++
			}
		}
	}
	if seen[api.OK] < 300 || seen[api.ErrNone] < 100 || between < 100 {
		t.Errorf("the errors were %v, and %d prices between the least and the greatest", seen, between)
	}
}

// books keeps what is owed of each year: every farthing is paid by itself.
type books struct {
	act     api.Act
	balance int
	owed    []int
}

// open tells whether what is owed of a year can still be paid in the last year.
func (b *books) open(year int) bool {
	return year+b.act.Back >= len(b.owed)-1
}

// claim returns the year for which the next farthing is paid, or -1.
func (b *books) claim() int {
	last := len(b.owed) - 1
	if b.owed[last] > 0 {
		return last
	}
	for i, n := range b.owed {
		if n > 0 && b.open(i) {
			return i
		}
	}
	return -1
}

// arrears returns what is owed and can still be paid in the year after the last one.
func (b *books) arrears() int {
	all := 0
	for i, n := range b.owed {
		if i+b.act.Back >= len(b.owed) {
			all += n
		}
	}
	return all
}

// dueOf counts the farthings that are due: each one more would be more than the rate of the capital.
func dueOf(capital, rate int) int {
	due := 0
	for (due+1)*10_000 <= capital*rate {
		due++
	}
	return due
}

func (b *books) enter(y api.Year) api.Payment {
	p := api.Payment{Rate: rateOf(b.act, y.Price)}
	p.Due = dueOf(y.Capital, p.Rate)
	b.owed = append(b.owed, p.Due)
	b.balance += y.Profit
	for i := b.claim(); i >= 0 && b.balance > 0; i = b.claim() {
		b.owed[i]--
		b.balance--
		p.Paid++
	}
	for b.balance > b.act.Most {
		b.balance--
		p.Rebate++
	}
	p.Arrears, p.Reserve = b.arrears(), b.balance
	return p
}

// TestFarthingByFarthing holds Run, Check and Needed against books in which every farthing is paid by itself.
func TestFarthingByFarthing(t *testing.T) {
	d := newDice(4)
	made, lost, back, debts, none := 0, 0, 0, 0, 0
	for range 4000 {
		a, l := smallAct(d), smallYears(d)
		b := books{act: a}
		var want []api.Payment
		before := api.Payment{}
		for i, y := range l {
			p := b.enter(y)
			want = append(want, p)
			if p.Paid > p.Due {
				made++
			}
			if p.Paid <= p.Due && p.Arrears < before.Arrears+p.Due-p.Paid {
				lost++
			}
			if p.Rebate > 0 {
				back++
			}
			if p.Reserve < 0 {
				debts++
			}
			if p.Due+before.Arrears == 0 {
				none++
				wantNeeded(t, "farthing by farthing", a, l, i, 0, api.ErrNone)
			}
			before = p
		}
		wantRun(t, "farthing by farthing", a, l, want...)
		wantCheck(t, "farthing by farthing", a, l, want, len(l), api.OK)
		for range 3 {
			checkSome(t, d, a, l, want)
		}
	}
	if min(made, lost, back, debts, none) < 1000 {
		t.Errorf("%d years make up arrears, %d lose some, %d give back, %d end in debt, %d need nothing", made, lost, back, debts, none)
	}
}

// checkSome changes some numbers of payments, or how many they are, and holds Check against a comparison.
func checkSome(t *testing.T, d *dice, a api.Act, l []api.Year, right []api.Payment) {
	t.Helper()
	var p []api.Payment
	for i := range d.roll(len(right) + 3) {
		one := api.Payment{}
		if i < len(right) {
			one = right[i]
		}
		if d.roll(20) == 0 {
			one.Paid += d.roll(3)
			one.Rebate -= d.roll(2)
		}
		p = append(p, one)
	}
	for i, one := range p {
		if i >= len(right) || one != right[i] {
			wantCheck(t, "changed", a, l, p, i, api.ErrRefuse)
			return
		}
	}
	if len(p) < len(right) {
		wantCheck(t, "too few", a, l, p, len(p), api.ErrNone)
		return
	}
	wantCheck(t, "not changed", a, l, p, len(l), api.OK)
}

// TestLeastProfit holds Needed against all profits, from far below what is needed on.
func TestLeastProfit(t *testing.T) {
	d := newDice(5)
	loss, gain := 0, 0
	for range 3000 {
		a, l := smallAct(d), smallYears(d)
		if len(l) == 0 {
			continue
		}
		i := d.roll(len(l))
		least, e := leastProfit(a, l, i)
		wantNeeded(t, "all profits", a, l, i, least, e)
		if least < 0 {
			loss++
		}
		if least > 0 {
			gain++
		}
	}
	if min(loss, gain) < 100 {
		t.Errorf("%d years needed a profit, %d could bear a loss", gain, loss)
	}
}

// leastProfit raises the profit of a year until all is paid in it.
func leastProfit(a api.Act, l []api.Year, year int) (int, api.Errno) {
	b := books{act: a}
	for _, y := range l[:year] {
		b.enter(y)
	}
	for profit := -100; ; profit++ {
		y := l[year]
		y.Profit = profit
		after := books{act: a, balance: b.balance, owed: append([]int{}, b.owed...)}
		p := after.enter(y)
		if after.claim() >= 0 {
			continue
		}
		if p.Paid == 0 {
			return 0, api.ErrNone
		}
		return profit, api.OK
	}
}

// TestDueOfLargeCapitals holds what is due against numbers that have no greatest one.
func TestDueOfLargeCapitals(t *testing.T) {
	d := newDice(6)
	parts := 0
	for range 5000 {
		a := anyAct(d)
		y := year(d.size(api.MaxScale), api.MaxPay-d.roll(1<<30), 0)
		p, e := scale.Run(a, []api.Year{y})
		if e != api.OK {
			t.Fatalf("Run of %v, %v has the error %d", a, y, e)
		}
		due, rest := new(big.Int).QuoRem(new(big.Int).Mul(big.NewInt(int64(y.Capital)), big.NewInt(int64(p[0].Rate))), big.NewInt(10_000), new(big.Int))
		if !due.IsInt64() || due.Int64() != int64(p[0].Due) || p[0].Rate != rateOf(a, y.Price) {
			t.Errorf("Run of %v, %v = %v; %v is due", a, y, p, due)
		}
		if rest.Sign() > 0 {
			parts++
		}
	}
	if parts < 1000 {
		t.Errorf("only %d dues were rounded", parts)
	}
}
