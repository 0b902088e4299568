package tar_test

import (
	"slices"
	"testing"

	"gasworks/api"
	"gasworks/tar"
)

// A dice rolls the same numbers in each run of the tests.
type dice struct{ at uint64 }

func newDice(seed uint64) *dice { return &dice{at: seed} }

func (d *dice) roll(n int) int {
	d.at = d.at*6364136223846793005 + 1442695040888963407
	return int(d.at >> 33 % uint64(n))
}

// span returns a span of at most so many numbers more than one, within 0 to most.
func (d *dice) span(width, most int) api.Span {
	lo := d.roll(most + 1)
	return span(lo, min(most, lo+d.roll(width+1)))
}

// everyChoice calls a function for each list of numbers of which the number i is within the span i, in lexicographic order.
func everyChoice(spans []api.Span, visit func(l []int)) {
	l := make([]int, len(spans))
	var choose func(i int)
	choose = func(i int) {
		if i == len(l) {
			visit(l)
			return
		}
		for n := spans[i].Lo; n <= spans[i].Hi; n++ {
			l[i] = n
			choose(i + 1)
		}
	}
	choose(0)
}

// everyPlan calls a function for each plan, in lexicographic order.
func everyPlan(stills []api.Still, visit func(plan []int)) {
	var spans []api.Span
	for _, s := range stills {
		spans = append(spans, span(0, s.Most))
	}
	everyChoice(spans, visit)
}

// batches returns the stills of a plan, one for each time that one is worked.
func batches(y api.Yards, plan []int) []api.Still {
	var l []api.Still
	for i, times := range plan {
		l = append(l, slices.Repeat(y.Stills[i:i+1], times)...)
	}
	return l
}

// everyTruth works the stills of a plan, one time after the other, and calls a function for what is left in each truth, with whether a still lacked something.
func everyTruth(stock []int, l []api.Still, visit func(left []int, lacks bool)) {
	if len(l) == 0 {
		visit(stock, false)
		return
	}
	if stock[l[0].In] < l[0].Takes {
		visit(stock, true)
		return
	}
	everyChoice(l[0].Out, func(out []int) {
		next := slices.Clone(stock)
		for i, n := range out {
			next[i] += n
		}
		next[l[0].In] -= l[0].Takes
		everyTruth(next, l[1:], visit)
	})
}

// leftInTruths returns the least and the greatest that is left in all truths, and whether the plan can be.
func leftInTruths(y api.Yards, plan []int) (left []api.Span, can bool) {
	can = true
	everyTruth(y.Stock, batches(y, plan), func(l []int, lacks bool) {
		can = can && !lacks
		for i, n := range l {
			if len(left) == i {
				left = append(left, span(n, n))
			}
			left[i] = span(min(left[i].Lo, n), max(left[i].Hi, n))
		}
	})
	return left, can
}

// sell sells hundredweight by hundredweight: always the next one to the sale that pays most for it, the first one of several.
func sell(sales []api.Sale, left []api.Span) (sold []int, income int) {
	sold = make([]int, len(sales))
	for good, s := range left {
		for range s.Lo {
			best := -1
			for i, sale := range sales {
				if sale.Good == good && sold[i] < sale.Most && (best < 0 || sale.Price > sales[best].Price) {
					best = i
				}
			}
			if best >= 0 {
				sold[best]++
				income += sales[best].Price
			}
		}
	}
	return sold, income
}

// paid returns what is paid for a plan.
func paid(y api.Yards, plan []int) int {
	pay := 0
	for _, s := range batches(y, plan) {
		pay += s.Pay
	}
	return pay
}

// smallYards returns a yard with few truths.
func smallYards(d *dice) api.Yards {
	y := api.Yards{Stock: make([]int, 1+d.roll(4))}
	for i := range y.Stock {
		y.Stock[i] = d.roll(2) * d.roll(7)
	}
	y.Stock[0] += d.roll(7)
	in := 0
	for range d.roll(api.MaxStills) {
		in = min(len(y.Stock)-1, in+d.roll(2))
		s := api.Still{In: in, Takes: 1 + d.roll(4), Out: make([]api.Span, len(y.Stock)), Pay: d.roll(1 + d.roll(4)), Most: d.roll(4)}
		for i := in + 1; i < len(y.Stock); i++ {
			s.Out[i] = d.span(d.roll(2), 4)
		}
		y.Stills = append(y.Stills, s)
	}
	for range d.roll(api.MaxSales + 1) {
		y.Sales = append(y.Sales, sale(d.roll(len(y.Stock)), d.roll(7), d.roll(5)))
	}
	return y
}

// truths returns how many truths a plan has, if no still lacks anything.
func truths(y api.Yards, plan []int) int {
	n := 1
	for _, s := range batches(y, plan) {
		for _, out := range s.Out {
			n = min(n*(out.Hi-out.Lo+1), 1<<30)
		}
	}
	return n
}

// TestAllTruths holds all functions against a listing of all plans and all truths.
func TestAllTruths(t *testing.T) {
	d := newDice(2)
	seen, worked, equal := map[bool]int{}, 0, 0
	for range 4000 {
		y := smallYards(d)
		var best []int
		most, all := 0, true
		everyPlan(y.Stills, func(plan []int) {
			if truths(y, plan) > 1000 {
				all = false
				return
			}
			left, can := leftInTruths(y, plan)
			seen[can]++
			if !can {
				wantNot(t, "all truths", y, plan, api.ErrShort)
				return
			}
			wantLeft(t, "all truths", y, plan, left...)
			sold, income := sell(y.Sales, left)
			income -= paid(y, plan)
			wantIncome(t, "all truths", y, plan, income, sold...)
			if best != nil && income == most && income > 0 {
				equal++
			}
			if best == nil || income > most {
				best, most = slices.Clone(plan), income
			}
		})
		if !all {
			continue
		}
		wantPlan(t, "all truths", y, most, best...)
		if slices.ContainsFunc(best, func(n int) bool { return n > 0 }) {
			worked++
		}
	}
	if min(seen[true], seen[false]) < 2000 || worked < 200 || equal < 200 {
		t.Errorf("%v plans can be or not; %d of the best ones work a still, %d others are as good as one before", seen, worked, equal)
	}
}

// TestAllLoads holds Carried against a listing of all that a cart can have weighed.
func TestAllLoads(t *testing.T) {
	d := newDice(3)
	none, some := 0, 0
	for range 2000 {
		var l []api.Weighing
		var each []api.Span
		all := span(0, 0)
		for range d.roll(5) {
			w := api.Weighing{Empty: d.span(5, 12), Full: d.span(5, 12)}
			loads := loads(w)
			if len(loads) == 0 {
				none++
				wantNotCarried(t, "it carried nothing that can be", append(l, w), api.ErrArg)
				continue
			}
			some++
			l = append(l, w)
			each = append(each, span(slices.Min(loads), slices.Max(loads)))
			all = span(all.Lo+slices.Min(loads), all.Hi+slices.Max(loads))
		}
		wantCarried(t, "all loads", l, all, each...)
	}
	if min(none, some) < 500 {
		t.Errorf("%d carts carried something that can be, %d nothing", some, none)
	}
}

// loads returns all that a cart can have carried.
func loads(w api.Weighing) []int {
	var l []int
	everyChoice([]api.Span{w.Empty, w.Full}, func(weights []int) {
		if n := weights[1] - weights[0]; n >= 0 {
			l = append(l, n)
		}
	})
	return l
}

// largeYards returns a yard of numbers of any size, in which stills can often be worked.
func largeYards(d *dice) api.Yards {
	y := api.Yards{Stock: make([]int, 1+d.roll(api.MaxGoods))}
	size := 1 + d.roll(1<<d.roll(18))
	for i := range y.Stock {
		y.Stock[i] = d.roll(8 * size)
	}
	in := 0
	for range d.roll(api.MaxStills + 1) {
		in = min(len(y.Stock)-1, in+d.roll(3))
		y.Stills = append(y.Stills, largeStill(d, in, len(y.Stock), size))
	}
	for range d.roll(api.MaxSales + 1) {
		y.Sales = append(y.Sales, largeSale(d, len(y.Stock), size))
	}
	return y
}

func largeStill(d *dice, in, goods, size int) api.Still {
	s := api.Still{In: in, Takes: 1 + d.roll(2*size), Out: make([]api.Span, goods), Pay: d.roll(1 + d.roll(api.MaxPrice+1)), Most: d.roll(api.MaxBatches + 1)}
	for i := in + 1; i < goods; i++ {
		s.Out[i] = d.span(size, 4*size)
	}
	return s
}

func largeSale(d *dice, goods, size int) api.Sale {
	return sale(d.roll(goods), d.roll(8*size), d.roll(1+d.roll(api.MaxPrice+1)))
}

// leastAndMost works the stills of a plan with the least of all spans, and with the greatest.
func leastAndMost(y api.Yards, plan []int) (left []api.Span, can bool) {
	least, most := slices.Clone(y.Stock), slices.Clone(y.Stock)
	for _, s := range batches(y, plan) {
		if least[s.In] < s.Takes {
			return nil, false
		}
		least[s.In], most[s.In] = least[s.In]-s.Takes, most[s.In]-s.Takes
		for i, out := range s.Out {
			least[i], most[i] = least[i]+out.Lo, most[i]+out.Hi
		}
	}
	for i := range least {
		left = append(left, span(least[i], most[i]))
	}
	return left, true
}

// TestAllLargePlans holds all functions against all plans of yards of any size, by the ends of what comes out.
func TestAllLargePlans(t *testing.T) {
	d := newDice(4)
	worked := 0
	for range 400 {
		y := largeYards(d)
		var best []int
		most := 0
		everyPlan(y.Stills, func(plan []int) {
			left, can := leastAndMost(y, plan)
			if !can {
				wantNot(t, "all large plans", y, plan, api.ErrShort)
				return
			}
			wantLeft(t, "all large plans", y, plan, left...)
			income, _, e := tar.Income(y, plan)
			if e != api.OK {
				t.Errorf("Income of %v, %v has the error %d", y, plan, e)
			}
			if best == nil || income > most {
				best, most = slices.Clone(plan), income
			}
		})
		wantPlan(t, "all large plans", y, most, best...)
		if slices.ContainsFunc(best, func(n int) bool { return n > 0 }) {
			worked++
		}
	}
	if worked < 30 {
		t.Errorf("only %d of the best plans work a still", worked)
	}
}
