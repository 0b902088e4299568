package scale_test

import (
	"reflect"
	"slices"
	"testing"

	"gasworks/api"
	"gasworks/scale"
)

// usualAct returns an act of which the years often pay out less than is due, and earn more than can be kept.
func usualAct(d *dice) api.Act {
	return api.Act{Price: 30 + d.roll(40), Dividend: 500 + d.roll(1000), Step: 1 + d.roll(8), Gain: d.roll(50), Most: d.roll(2) * d.roll(1<<35), Back: d.roll(api.MaxBack + 1)}
}

// usualYears returns years whose profits are about what is due.
func usualYears(d *dice) []api.Year {
	size := 1 << (10 + d.roll(30))
	var l []api.Year
	for range 1 + d.roll(api.MaxYears) {
		l = append(l, year(20+d.roll(60), size+d.roll(size/8), d.roll(size/4)-d.roll(size/8)))
	}
	return l
}

func run(t *testing.T, a api.Act, l []api.Year) []api.Payment {
	t.Helper()
	p, e := scale.Run(a, l)
	if e != api.OK || len(p) != len(l) {
		t.Fatalf("Run of %v, %v = %v, error %d", a, l, p, e)
	}
	return p
}

// TestWhatWasEarned checks that what was earned in all is what was paid, what went back, and the reserve or less the debt.
func TestWhatWasEarned(t *testing.T) {
	d := newDice(7)
	for range 3000 {
		a, l := anyAct(d), anyYears(d)
		if d.roll(2) == 0 {
			a, l = usualAct(d), usualYears(d)
		}
		earned, spent := 0, 0
		for i, p := range run(t, a, l) {
			earned += l[i].Profit
			spent += p.Paid + p.Rebate
			if earned != spent+p.Reserve || min(p.Due, p.Paid, p.Rebate, p.Arrears) < 0 {
				t.Errorf("of %v, %v %d was earned by the year %d, %d paid or gone back, and %v is its payment", a, l, earned, i, spent, p)
			}
		}
	}
}

// TestNobodyIsPaidMore checks that in any years together no more is paid than was due in them, and in the Back years before them.
func TestNobodyIsPaidMore(t *testing.T) {
	d := newDice(8)
	exact, all := 0, 0
	for range 3000 {
		a, l := usualAct(d), usualYears(d)
		p := run(t, a, l)
		for range 10 {
			set := 1 + d.roll(1<<len(l)-1)
			if d.roll(2) == 0 { // years one after the other
				set = 1<<len(l) - 1<<d.roll(len(l))
			}
			paid, due := 0, 0
			for i := range l {
				if set>>i&1 > 0 {
					paid += p[i].Paid
				}
				if set>>i&(1<<(a.Back+1)-1) > 0 { // the year, or one of those after it
					due += p[i].Due
				}
			}
			if paid > due {
				t.Errorf("of %v, %v %v is paid; in the years %b together %d, and only %d was due", a, l, p, set, paid, due)
			}
			if all++; paid == due {
				exact++
			}
		}
	}
	if exact < all/20 {
		t.Errorf("of %d sets of years %d pay just what was due", all, exact)
	}
}

// TestNothingIsKeptWhileThereAreArrears checks what a reserve can be.
func TestNothingIsKeptWhileThereAreArrears(t *testing.T) {
	d := newDice(9)
	kept, full, owed := 0, 0, 0
	for range 5000 {
		a, l := usualAct(d), usualYears(d)
		for i, p := range run(t, a, l) {
			if p.Reserve > a.Most || p.Rebate > 0 && p.Reserve != a.Most || p.Arrears > 0 && (p.Reserve > 0 || p.Rebate > 0) || p.Reserve < 0 && p.Paid > 0 {
				t.Errorf("the year %d of %v, %v comes to %v", i, a, l, p)
			}
			switch {
			case p.Arrears > 0:
				owed++
			case p.Rebate > 0:
				full++
			case p.Reserve > 0:
				kept++
			}
		}
	}
	if min(kept, full, owed) < 2000 {
		t.Errorf("%d years keep a reserve, %d give back, %d have arrears", kept, full, owed)
	}
}

// TestCheaperGas checks that a lesser price has no lesser rate, and one that is lower by a Step a rate that is higher by Gain, between the bounds.
func TestCheaperGas(t *testing.T) {
	d := newDice(10)
	within, below := 0, 0
	for range 20_000 {
		a := anyAct(d)
		if d.roll(2) == 0 {
			a = usualAct(d)
		}
		dearer := d.roll(api.MaxScale + 1)
		if d.roll(2) == 0 {
			dearer = min(api.MaxScale, a.Price+d.roll(100))
		}
		cheaper := d.roll(dearer + 1)
		r1, _ := scale.Rate(a, dearer)
		r2, _ := scale.Rate(a, cheaper)
		if r1 > r2 {
			t.Errorf("of %v the rate of %d is %d, that of %d is %d", a, dearer, r1, cheaper, r2)
		}
		price, e := scale.Dearest(a, r1)
		if e != api.OK || price < dearer {
			t.Errorf("Dearest of %v, %d = %d, error %d; %d has this rate", a, r1, price, e, dearer)
		}
		if dearer < a.Step {
			continue
		}
		r2, _ = scale.Rate(a, dearer-a.Step)
		switch {
		case 0 < r1 && r1 < api.MaxDividend:
			within++
			if r2 != min(api.MaxDividend, r1+a.Gain) {
				t.Errorf("of %v the rate of %d is %d, that of %d is %d", a, dearer, r1, dearer-a.Step, r2)
			}
		case r1 == 0:
			below++
			if r2 > a.Gain {
				t.Errorf("of %v the rate of %d is 0, that of %d is %d", a, dearer, dearer-a.Step, r2)
			}
		}
	}
	if min(within, below) < 1000 {
		t.Errorf("%d rates are between the bounds, %d are 0", within, below)
	}
}

// TestDearestHasItsRate checks that no dearer price has a rate.
func TestDearestHasItsRate(t *testing.T) {
	d := newDice(11)
	for range 20_000 {
		a, rate := usualAct(d), d.roll(3000)
		price, e := scale.Dearest(a, rate)
		r, _ := scale.Rate(a, price)
		over, e2 := scale.Rate(a, price+1)
		free, _ := scale.Rate(a, 0)
		if e == api.OK && (r < rate || e2 == api.OK && over >= rate) || e != api.OK && (e != api.ErrNone || free >= rate) {
			t.Errorf("Dearest of %v, %d = %d, error %d; its rate is %d, that of a farthing more %d, that of free gas %d", a, rate, price, e, r, over, free)
		}
	}
}

// TestMoreProfit checks that with more profit no less is paid in the year, no less kept in it and later, and no more owed after it.
func TestMoreProfit(t *testing.T) {
	d := newDice(12)
	more, less := 0, 0
	for range 5000 {
		a, l := usualAct(d), usualYears(d)
		p := run(t, a, l)
		at := d.roll(len(l))
		richer := slices.Clone(l)
		richer[at].Profit += 1 + d.roll(1+p[at].Due)
		q := run(t, a, richer)
		if q[at].Paid < p[at].Paid || q[at].Arrears > p[at].Arrears || q[at].Rebate < p[at].Rebate || !slices.Equal(p[:at], q[:at]) {
			t.Errorf("of %v, %v %v is paid, of %v %v", a, l, p, richer, q)
		}
		for i := range l {
			if q[i].Reserve < p[i].Reserve {
				t.Errorf("of %v, %v %v is paid, of %v %v", a, l, p, richer, q)
			}
		}
		if q[at].Paid > p[at].Paid {
			more++
		}
		if q[at].Arrears < p[at].Arrears {
			less++
		}
	}
	if min(more, less) < 1000 {
		t.Errorf("%d years paid more, %d owed less", more, less)
	}
}

// TestWithWhatIsNeeded checks that with what Needed returns all is paid that is due or owed, and with a farthing less it is not.
func TestWithWhatIsNeeded(t *testing.T) {
	d := newDice(13)
	checked, none := 0, 0
	for range 5000 {
		a, l := usualAct(d), usualYears(d)
		if d.roll(10) == 0 {
			a.Dividend, a.Gain = 0, 0
		}
		at := d.roll(len(l))
		owed := 0
		if at > 0 {
			owed = run(t, a, l)[at-1].Arrears
		}
		profit, e := scale.Needed(a, l, at)
		if e == api.ErrNone {
			if none++; owed+run(t, a, l)[at].Due != 0 {
				t.Errorf("Needed of %v, %v, %d has the error %d", a, l, at, e)
			}
			continue
		}
		if e != api.OK || profit <= -api.MaxPay || profit > api.MaxPay {
			t.Fatalf("Needed of %v, %v, %d = %d, error %d", a, l, at, profit, e)
		}
		l[at].Profit = profit
		p := run(t, a, l)[at]
		l[at].Profit--
		q := run(t, a, l)[at]
		if p.Paid != p.Due+owed || p.Arrears != 0 || q.Paid != p.Paid-1 {
			t.Errorf("Needed of %v, %v, %d = %d; with it the year comes to %v, with a farthing less to %v, and %d were owed before", a, l, at, profit, p, q, owed)
		}
		checked++
	}
	if min(checked, none) < 200 {
		t.Errorf("%d profits were needed, %d years needed none", checked, none)
	}
}

// TestLaterYears checks that years after some year make no difference to it.
func TestLaterYears(t *testing.T) {
	d := newDice(14)
	for range 2000 {
		a, l := usualAct(d), usualYears(d)
		n := 1 + d.roll(len(l))
		p, q := run(t, a, l), run(t, a, l[:n])
		if !slices.Equal(p[:n], q) {
			t.Errorf("of %v, %v %v is paid, of the first %d years %v", a, l, p, n, q)
		}
		for i := range n {
			x, e1 := scale.Needed(a, l, i)
			y, e2 := scale.Needed(a, l[:n], i)
			if x != y || e1 != e2 {
				t.Errorf("Needed of %v, %v, %d = %d, error %d; of the first %d years %d, error %d", a, l, i, x, e1, n, y, e2)
			}
		}
	}
}

// hidden returns a list with elements that lie behind it.
func hidden[T any](l []T, behind ...T) (all, list []T) {
	all = append(slices.Clone(l), behind...)
	return all, all[:len(l)]
}

// A view is all that is said of an act, years and payments.
type view struct {
	run     []api.Payment
	numbers []int
	errors  []api.Errno
}

func viewOf(a api.Act, l []api.Year, p []api.Payment) view {
	var v view
	add := func(n int, e api.Errno) {
		v.numbers, v.errors = append(v.numbers, n), append(v.errors, e)
	}
	all, e := scale.Run(a, l)
	v.run = all
	add(len(all), e)
	add(scale.Check(a, l, p))
	for i := range l {
		add(scale.Needed(a, l, i))
		add(scale.Rate(a, l[i].Price))
	}
	return v
}

// TestArgumentsAreOnlyRead checks that no argument is changed, nor what lies behind its lists, and that results are new memory.
func TestArgumentsAreOnlyRead(t *testing.T) {
	d := newDice(15)
	for range 500 {
		a, l := usualAct(d), usualYears(d)
		right := run(t, a, l)
		allYears, l := hidden(l, year(-1, -2, -3), year(-4, -5, -6))
		allPayments, p := hidden(right, payment(-1, -2, -3, -4, -5, -6))
		wasYears, wasPayments := slices.Clone(allYears), slices.Clone(allPayments)
		first, second := viewOf(a, l, p), viewOf(a, l, p)
		if !reflect.DeepEqual(first, second) {
			t.Errorf("of %v, %v and %v first %v is said, then %v", a, l, p, first, second)
		}
		clear(first.run[:cap(first.run)])
		if third := viewOf(a, l, p); !reflect.DeepEqual(second, third) {
			t.Errorf("of %v, %v and %v first %v is said, then %v", a, l, p, second, third)
		}
		if !slices.Equal(allYears, wasYears) || !slices.Equal(allPayments, wasPayments) {
			t.Errorf("%v and %v have become %v and %v", wasYears, wasPayments, allYears, allPayments)
		}
	}
}
