package tar_test

import (
	"reflect"
	"slices"
	"testing"

	"gasworks/api"
	"gasworks/tar"
)

// within returns a number of a span: often one of its ends.
func (d *dice) within(s api.Span) int {
	switch d.roll(3) {
	case 0:
		return s.Lo
	case 1:
		return s.Hi
	}
	return s.Lo + d.roll(s.Hi-s.Lo+1)
}

// some returns a number of each span.
func (d *dice) some(spans []api.Span) []int {
	var l []int
	for _, s := range spans {
		l = append(l, d.within(s))
	}
	return l
}

// anyPlan returns some plan that can be.
func anyPlan(d *dice, y api.Yards) []int {
	plan := make([]int, len(y.Stills))
	for i, s := range y.Stills {
		for range d.roll(s.Most + 1) {
			plan[i]++
			if _, e := tar.Left(y, plan); e != api.OK {
				plan[i]--
				break
			}
		}
	}
	return plan
}

// contains tells whether a span contains another one.
func contains(s, other api.Span) bool {
	return s.Lo <= other.Lo && other.Hi <= s.Hi
}

// work works the stills of a plan, and returns what is left of what the dice let come out.
func (d *dice) work(t *testing.T, y api.Yards, plan []int) []int {
	t.Helper()
	left := slices.Clone(y.Stock)
	for _, s := range batches(y, plan) {
		left[s.In] -= s.Takes
		if left[s.In] < 0 {
			t.Errorf("%v lacks something in the plan %v of %v", s, plan, y)
		}
		for i, n := range d.some(s.Out) {
			left[i] += n
		}
	}
	return left
}

// TestWhateverComesOut checks that a plan never lacks anything, that what is left is within its spans, and that it can be sold.
func TestWhateverComesOut(t *testing.T) {
	d := newDice(5)
	worked, doubtful := 0, 0
	for range 2000 {
		y := largeYards(d)
		plan := anyPlan(d, y)
		spans, e := tar.Left(y, plan)
		_, sold, e2 := tar.Income(y, plan)
		if e != api.OK || e2 != api.OK {
			t.Fatalf("%v of %v has the errors %d and %d", plan, y, e, e2)
		}
		for range 10 {
			left := d.work(t, y, plan)
			rest := slices.Clone(left)
			for i, n := range sold {
				rest[y.Sales[i].Good] -= n
				if n < 0 || n > y.Sales[i].Most {
					t.Errorf("Income of %v, %v sells %v", y, plan, sold)
				}
			}
			for i, s := range spans {
				if !contains(s, span(left[i], left[i])) || s.Lo < 0 || rest[i] < 0 {
					t.Errorf("of %v after %v there are %v; Left says %v, and %v are sold", y, plan, left, spans, sold)
				}
			}
		}
		if slices.ContainsFunc(plan, func(n int) bool { return n > 0 }) {
			worked++
		}
		if slices.ContainsFunc(spans, func(s api.Span) bool { return s.Lo < s.Hi }) {
			doubtful++
		}
	}
	if min(worked, doubtful) < 500 {
		t.Errorf("%d plans worked a still, of %d it was not known what is left", worked, doubtful)
	}
}

// TestSureIncome checks that Income is what the sales bring in less what is paid, and that no sale could sell more or dearer.
func TestSureIncome(t *testing.T) {
	d := newDice(6)
	for range 2000 {
		y := largeYards(d)
		plan := anyPlan(d, y)
		spans, _ := tar.Left(y, plan)
		income, sold, _ := tar.Income(y, plan)
		own := -paid(y, plan)
		for i, n := range sold {
			own += n * y.Sales[i].Price
			spans[y.Sales[i].Good].Lo -= n
		}
		if own != income {
			t.Errorf("Income of %v, %v = %d, %v; that comes to %d", y, plan, income, sold, own)
		}
		for i, a := range y.Sales {
			if sold[i] < a.Most && spans[a.Good].Lo > 0 {
				t.Errorf("Income of %v, %v sells %v; %v are left", y, plan, sold, spans)
			}
			for j, b := range y.Sales {
				comes := a.Price > b.Price || a.Price == b.Price && i < j
				if a.Good == b.Good && comes && sold[i] < a.Most && sold[j] > 0 {
					t.Errorf("Income of %v, %v sells %v; the sale %d comes before %d", y, plan, sold, i, j)
				}
			}
		}
	}
}

// TestNoBetterPlan checks that no other plan that can be has a greater sure income, and that Income tells that of the best one.
func TestNoBetterPlan(t *testing.T) {
	d := newDice(7)
	worse := 0
	for range 500 {
		y := largeYards(d)
		best, most, e := tar.Plan(y)
		if income, _, e2 := tar.Income(y, best); income != most || e != api.OK || e2 != api.OK {
			t.Errorf("Plan of %v = %v, %d, error %d; its income is %d, error %d", y, best, most, e, income, e2)
		}
		for range 5 {
			plan := anyPlan(d, y)
			income, _, _ := tar.Income(y, plan)
			if income > most || income == most && slices.Compare(plan, best) < 0 {
				t.Errorf("Plan of %v = %v, %d; %v brings in %d", y, best, most, plan, income)
			}
			if income < most {
				worse++
			}
		}
	}
	if worse < 500 {
		t.Errorf("only %d plans were worse than the best one", worse)
	}
}

// copyOf returns a yard in memory of its own.
func copyOf(y api.Yards) api.Yards {
	other := api.Yards{Stock: slices.Clone(y.Stock), Stills: slices.Clone(y.Stills), Sales: slices.Clone(y.Sales)}
	for i, s := range other.Stills {
		other.Stills[i].Out = slices.Clone(s.Out)
	}
	return other
}

// A change of a yard is one after which there is no less income. It tells whether the yard could be changed.
type change func(d *dice, y *api.Yards) bool

func moreStock(d *dice, y *api.Yards) bool {
	n := &y.Stock[d.roll(len(y.Stock))]
	*n = min(api.MaxTons, *n+1+d.roll(1+d.roll(2*(*n+1))))
	return true
}

func greaterPrice(d *dice, y *api.Yards) bool {
	if len(y.Sales) == 0 {
		return false
	}
	n := &y.Sales[d.roll(len(y.Sales))].Price
	*n = min(api.MaxPrice, *n+1+d.roll(200_000))
	return true
}

func oneStillMore(d *dice, y *api.Yards) bool {
	if len(y.Stills) == api.MaxStills {
		return false
	}
	s := largeStill(d, d.roll(len(y.Stock)), len(y.Stock), 1+slices.Max(y.Stock)/8)
	at := 0
	for at < len(y.Stills) && y.Stills[at].In < s.In+d.roll(2) {
		at++
	}
	y.Stills = slices.Insert(y.Stills, at, s)
	return true
}

// knownBetter narrows each span of what comes out.
func knownBetter(d *dice, y *api.Yards) bool {
	for _, s := range y.Stills {
		for i, out := range s.Out {
			a, b := d.within(out), d.within(out)
			s.Out[i] = span(min(a, b), max(a, b))
		}
	}
	return true
}

// TestNoLessIncome checks that with more Stock, a greater Price, a still more, or with narrower spans, there is no less income.
func TestNoLessIncome(t *testing.T) {
	for name, f := range map[string]change{"more stock": moreStock, "a greater price": greaterPrice, "a still more": oneStillMore, "known better": knownBetter} {
		d := newDice(8)
		greater := 0
		for range 600 {
			y := largeYards(d)
			other := copyOf(y)
			if !f(d, &other) {
				continue
			}
			_, before, _ := tar.Plan(y)
			_, income, e := tar.Plan(other)
			if e != api.OK || income < before {
				t.Errorf("%s: of %v the income is %d, of %v %d, error %d", name, y, before, other, income, e)
			}
			if income > before {
				greater++
			}
		}
		if greater < 20 {
			t.Errorf("%s: only %d incomes became greater", name, greater)
		}
	}
}

// TestAnyOrderOfSales checks that the order of sales makes no difference to the income, nor to how much is sold at each price.
func TestAnyOrderOfSales(t *testing.T) {
	d := newDice(9)
	for range 1000 {
		y := largeYards(d)
		for i := range y.Sales {
			if d.roll(2) == 0 {
				y.Sales[i].Price = y.Sales[0].Price
			}
		}
		other := copyOf(y)
		for i := range other.Sales {
			j := d.roll(i + 1)
			other.Sales[i], other.Sales[j] = other.Sales[j], other.Sales[i]
		}
		plan, income, _ := tar.Plan(y)
		if l, n, e := tar.Plan(other); !slices.Equal(l, plan) || n != income || e != api.OK {
			t.Errorf("Plan of %v = %v, %d; of %v %v, %d, error %d", y, plan, income, other, l, n, e)
		}
		_, sold, _ := tar.Income(y, plan)
		_, sold2, _ := tar.Income(other, plan)
		if a, b := atPrices(y.Sales, sold), atPrices(other.Sales, sold2); !reflect.DeepEqual(a, b) {
			t.Errorf("of %v %v is sold, of %v %v", y, sold, other, sold2)
		}
	}
}

// atPrices returns how much of each good is sold at each price.
func atPrices(sales []api.Sale, sold []int) map[[2]int]int {
	all := map[[2]int]int{}
	for i, n := range sold {
		all[[2]int{sales[i].Good, sales[i].Price}] += n
	}
	return all
}

// largeCarts returns weighings of any size.
func largeCarts(d *dice) []api.Weighing {
	var l []api.Weighing
	for range d.roll(api.MaxCarts + 1) {
		w := api.Weighing{Empty: d.span(3000, api.MaxWeight/2), Full: d.span(3000, api.MaxWeight)}
		if d.roll(3) == 0 {
			w.Full = span(max(0, w.Empty.Lo-d.roll(2000)), w.Empty.Lo+d.roll(2000))
		}
		if w.Full.Hi >= w.Empty.Lo {
			l = append(l, w)
		}
	}
	return l
}

// TestTrueWeights checks that what carts truly carried is within what is told, and that each end is reached.
func TestTrueWeights(t *testing.T) {
	d := newDice(10)
	for range 2000 {
		l := largeCarts(d)
		each, all, e := tar.Carried(l)
		if e != api.OK || len(each) != len(l) {
			t.Fatalf("Carried of %v = %v, error %d", l, each, e)
		}
		sum, least, most := 0, 0, 0
		for i, w := range l {
			n := max(0, d.within(w.Full)-d.within(w.Empty))
			if !contains(each[i], span(n, n)) {
				t.Errorf("Carried of %v = %v; it can be %d", w, each[i], n)
			}
			if lo, hi := each[i].Lo, each[i].Hi; !canCarry(w, lo) || !canCarry(w, hi) || canCarry(w, lo-1) || canCarry(w, hi+1) {
				t.Errorf("Carried of %v = %v, whose ends are not the last ones", w, each[i])
			}
			sum, least, most = sum+n, least+each[i].Lo, most+each[i].Hi
		}
		if !contains(all, span(sum, sum)) || all != span(least, most) {
			t.Errorf("Carried of %v = %v, %v; it can be %d", l, each, all, sum)
		}
	}
}

// canCarry tells whether a cart can have carried so much: some weight of the full one is so much greater than one of the empty one.
func canCarry(w api.Weighing, n int) bool {
	return n >= 0 && w.Empty.Lo+n <= w.Full.Hi && w.Full.Lo <= w.Empty.Hi+n
}

// TestAnyOrderOfCarts checks that the order of carts makes no difference to what all of them carried.
func TestAnyOrderOfCarts(t *testing.T) {
	d := newDice(11)
	for range 500 {
		l := largeCarts(d)
		each, all, _ := tar.Carried(l)
		slices.Reverse(l)
		slices.Reverse(each)
		wantCarried(t, "the other order", l, all, each...)
	}
}

// A view is all that is said of a yard, a plan and carts.
type view struct {
	lists   [][]int
	spans   [][]api.Span
	numbers [2]int
	all     api.Span
}

func viewOf(y api.Yards, plan []int, carts []api.Weighing) view {
	var v view
	left, _ := tar.Left(y, plan)
	income, sold, _ := tar.Income(y, plan)
	best, most, _ := tar.Plan(y)
	each, all, _ := tar.Carried(carts)
	v.lists, v.spans = [][]int{sold, best}, [][]api.Span{left, each}
	v.numbers, v.all = [2]int{income, most}, all
	return v
}

// spoil writes over all that lies in the lists of a view.
func (v view) spoil() {
	for _, l := range v.lists {
		for i := range l[:cap(l)] {
			l[:cap(l)][i] = -1
		}
	}
	for _, l := range v.spans {
		for i := range l[:cap(l)] {
			l[:cap(l)][i] = span(-1, -2)
		}
	}
}

// hidden returns a list with elements that lie behind it.
func hidden[T any](l []T, behind ...T) (all, list []T) {
	all = append(slices.Clone(l), behind...)
	return all, all[:len(l)]
}

// TestArgumentsAreOnlyRead checks that no argument is changed, nor what lies behind its lists, and that results are new memory.
func TestArgumentsAreOnlyRead(t *testing.T) {
	d := newDice(12)
	for range 300 {
		y := largeYards(d)
		allPlans, plan := hidden(anyPlan(d, y), -7, -8)
		allCarts, carts := hidden(largeCarts(d), cart(-7, -8, -9, -10))
		allStock, stock := hidden(y.Stock, -7, -8)
		allStills, stills := hidden(y.Stills, still(-7, -8), still(-9, -10))
		allSales, sales := hidden(y.Sales, sale(-7, -8, -9), sale(-10, -11, -12))
		y.Stock, y.Stills, y.Sales = stock, stills, sales
		wasYards, wasSales, wasStock := copyOf(y), slices.Clone(allSales), slices.Clone(allStock)
		wasPlans, wasCarts, wasStills := slices.Clone(allPlans), slices.Clone(allCarts), copyOf(api.Yards{Stills: allStills}).Stills
		first := viewOf(y, plan, carts)
		second := viewOf(y, plan, carts)
		if !reflect.DeepEqual(first, second) {
			t.Errorf("of %v, %v and %v first %v is said, then %v", y, plan, carts, first, second)
		}
		first.spoil()
		third := viewOf(y, plan, carts)
		if !reflect.DeepEqual(second, third) {
			t.Errorf("of %v, %v and %v first %v is said, then %v", y, plan, carts, second, third)
		}
		if !reflect.DeepEqual(copyOf(y), wasYards) || !slices.Equal(allSales, wasSales) || !slices.Equal(allStock, wasStock) {
			t.Errorf("%v has become %v", wasYards, y)
		}
		if !slices.Equal(allPlans, wasPlans) || !slices.Equal(allCarts, wasCarts) || !reflect.DeepEqual(allStills, wasStills) {
			t.Errorf("%v, %v and %v have become %v, %v and %v", wasPlans, wasCarts, wasStills, allPlans, allCarts, allStills)
		}
	}
}
