package holder_test

import (
	"iter"
	"math"
	"slices"
	"testing"

	"gasworks/api"
	"gasworks/holder"
)

// A dice rolls the same numbers in each run of the tests.
type dice struct{ at uint64 }

func newDice(seed uint64) *dice { return &dice{at: seed} }

func (d *dice) roll(n int) int {
	d.at = d.at*6364136223846793005 + 1442695040888963407
	return int(d.at >> 33 % uint64(n))
}

// anyWatch returns a watch whose draws are such that many plans hold and many do not, and whose spans are at most so wide.
func anyWatch(d *dice, hours, retorts, wide int) api.Watch {
	around := func(n int) api.Span {
		lo := d.roll(n)
		return span(lo, lo+d.roll(wide+1))
	}
	w := api.Watch{Full: 14 + d.roll(20), Start: around(14), Retorts: retorts, Lit: d.roll(retorts + 1), Yield: 2 + d.roll(6), Coal: d.roll(4), Light: d.roll(6)}
	w.Least = d.roll(6)
	for range hours {
		w.Draws = append(w.Draws, around(2+w.Yield*retorts))
	}
	return w
}

// plans ranges over all plans of so many hours, in lexicographic order.
func plans(hours, retorts int) iter.Seq[[]int] {
	return func(yield func([]int) bool) {
		all := 1
		for range hours {
			all *= retorts + 1
		}
		for i := range all {
			plan := make([]int, hours)
			for hour := hours - 1; hour >= 0; hour-- {
				plan[hour] = i % (retorts + 1)
				i /= retorts + 1
			}
			if !yield(plan) {
				return
			}
		}
	}
}

// courses ranges over all courses: what was there at first, and then each draw.
func courses(w api.Watch) iter.Seq[[]int] {
	return func(yield func([]int) bool) {
		all := append(spans(w.Start), w.Draws...)
		c := make([]int, len(all))
		for i, s := range all {
			c[i] = s.Lo
		}
		for {
			if !yield(c) {
				return
			}
			i := 0
			for i < len(c) && c[i] == all[i].Hi {
				c[i] = all[i].Lo
				i++
			}
			if i == len(c) {
				return
			}
			c[i]++
		}
	}
}

// cost returns what a plan costs: the retorts are numbered, and in each hour the first ones are lit.
func cost(w api.Watch, plan []int) int {
	sum := 0
	for retort := range w.Retorts {
		burns := retort < w.Lit
		for _, lit := range plan {
			if retort < lit {
				sum += w.Coal
				if !burns {
					sum += w.Light
				}
			}
			burns = retort < lit
		}
	}
	return sum
}

// followed returns what Holds has to return, by all courses.
func followed(w api.Watch, plan []int) ([]api.Span, int, api.Errno) {
	held := slices.Repeat(spans(span(math.MaxInt, math.MinInt)), len(plan))
	for c := range courses(w) {
		has := c[0]
		for hour, lit := range plan {
			has += w.Yield*lit - c[hour+1]
			held[hour] = span(min(held[hour].Lo, has), max(held[hour].Hi, has))
		}
	}
	for hour, s := range held {
		if s.Lo < w.Least {
			return nil, hour, api.ErrShort
		}
		if s.Hi > w.Full {
			return nil, hour, api.ErrFull
		}
	}
	return held, len(plan), api.OK
}

// best returns the first plan of those that cost least, of all that hold in each course, and its cost, or -1.
func best(w api.Watch) ([]int, int) {
	var first []int
	least := -1
	for plan := range plans(len(w.Draws), w.Retorts) {
		if _, _, e := followed(w, plan); e != api.OK {
			continue
		}
		if n := cost(w, plan); least < 0 || n < least {
			first, least = plan, n
		}
	}
	return first, least
}

// TestHoldsInAllCourses holds Holds against a listing of all courses, for all plans of small watches.
func TestHoldsInAllCourses(t *testing.T) {
	d := newDice(1)
	errors := map[api.Errno]int{}
	for i := range 300 {
		w := anyWatch(d, i%4, d.roll(3), 2)
		for plan := range plans(len(w.Draws), w.Retorts) {
			held, hour, e := followed(w, plan)
			errors[e]++
			if e != api.OK {
				wantFails(t, w, plan, hour, e)
				continue
			}
			wantHolds(t, w, plan, held...)
		}
	}
	if errors[api.OK] < 300 || errors[api.ErrShort] < 300 || errors[api.ErrFull] < 100 {
		t.Errorf("the watches came to the errors %v", errors)
	}
}

// TestPlanOfAllPlans holds Plan against a listing of all plans, and checks P5.8 with its table.
func TestPlanOfAllPlans(t *testing.T) {
	d := newDice(2)
	found, none := 0, 0
	for i := range 400 {
		w := anyWatch(d, i%5, d.roll(4), 2)
		plan, least := best(w)
		table, e := holder.Table(w)
		if e != api.OK {
			t.Fatalf("Table of %v has the error %d", w, e)
		}
		wantCheck(t, "its own table", w, table, plan, len(table), api.OK)
		if least < 0 {
			none++
			wantNoPlan(t, "no plan holds", w)
			wantCheck(t, "no plan holds", w, table, []int{0}, len(table), api.ErrState)
			continue
		}
		found++
		wantPlan(t, "of all plans", w, least, plan...)
	}
	if found < 100 || none < 50 {
		t.Errorf("%d watches have a plan, and %d have none", found, none)
	}
}

// TestLongWatches checks watches of twelve hours: the plan holds, and its table proves it. In the first ones each plan holds.
func TestLongWatches(t *testing.T) {
	d := newDice(3)
	found, rows := 0, 0
	for i := range 200 {
		w := anyWatch(d, api.MaxWatch, api.MaxRetorts, 1)
		w.Full = api.MaxGas >> (i / 2)
		if i < 20 {
			w.Start, w.Least = span(1000, 1000), 0
		}
		w.Least = min(w.Least, w.Full)
		plan, cost, e := holder.Plan(w)
		table, other := holder.Table(w)
		if other != api.OK || e != api.OK && e != api.ErrNone {
			t.Fatalf("the errors of %v are %d and %d", w, e, other)
		}
		rows = max(rows, len(table))
		wantCheck(t, "its own table", w, table, plan, len(table), api.OK)
		if e == api.OK {
			found++
			wantFirst(t, w, plan, cost, table)
		}
	}
	if found < 40 || rows != 1381 {
		t.Errorf("%d watches have a plan; the longest table has %d rows", found, rows)
	}
}

// wantFirst checks that a plan holds, and that it is the first one of its cost: with fewer retorts in any hour, the rest must cost more.
func wantFirst(t *testing.T, w api.Watch, plan []int, least int, table []api.Row) {
	t.Helper()
	if _, _, e := holder.Holds(w, plan); e != api.OK || cost(w, plan) != least || table[0].Cost != least {
		t.Errorf("the plan %v of %v costs %d, not %d; Holds has the error %d", plan, w, cost(w, plan), least, e)
	}
	for hour := range plan {
		for lit := range plan[hour] {
			other := append(slices.Clone(plan[:hour]), lit)
			if rest := costOf(table, stateAfter(w, other)); rest != api.NoWay && cost(w, other)+rest <= least {
				t.Errorf("the plan of %v is %v, but %v can begin one that costs %d", w, plan, other, cost(w, other)+rest)
			}
		}
	}
}

// stateAfter returns the state after the first hours of a plan, as a row.
func stateAfter(w api.Watch, plan []int) api.Row {
	r := row(0, 0, w.Lit, 0)
	for _, lit := range plan {
		r = row(r.Hour+1, r.Total+lit, lit, 0)
	}
	return r
}

// costOf returns the Cost of a state in a table, or NoWay if it has no row.
func costOf(table []api.Row, state api.Row) int {
	for _, r := range table {
		if r.Hour == state.Hour && r.Total == state.Total && r.Lit == state.Lit {
			return r.Cost
		}
	}
	return api.NoWay
}

// wantNoMore checks that the least cost of the second watch is no greater than that of the first one.
func wantNoMore(t *testing.T, name string, dear, cheap api.Watch) {
	t.Helper()
	_, n, e := holder.Plan(dear)
	_, m, other := holder.Plan(cheap)
	if e == api.OK && (other != api.OK || m > n) {
		t.Errorf("%s: %v costs %d, and %v costs %d, error %d", name, dear, n, cheap, m, other)
	}
}

// TestMore checks P5.9 of watches.
func TestMore(t *testing.T) {
	d := newDice(4)
	for i := range 600 {
		w := anyWatch(d, 1+i%6, 1+d.roll(4), 3)
		other := func(change func(x *api.Watch)) api.Watch {
			x := w
			x.Draws = slices.Clone(w.Draws)
			change(&x)
			return x
		}
		hour, less := d.roll(len(w.Draws)), d.roll(3)
		wantNoMore(t, "narrower draws", w, other(func(x *api.Watch) { x.Draws[hour].Hi = max(x.Draws[hour].Lo, x.Draws[hour].Hi-less) }))
		wantNoMore(t, "narrower draws", w, other(func(x *api.Watch) { x.Draws[hour].Lo = min(x.Draws[hour].Hi, x.Draws[hour].Lo+less) }))
		wantNoMore(t, "a greater Full", w, other(func(x *api.Watch) { x.Full += less }))
		wantNoMore(t, "a lower Least", w, other(func(x *api.Watch) { x.Least = max(0, x.Least-less) }))
		wantNoMore(t, "dearer Coal", other(func(x *api.Watch) { x.Coal += less }), w)
		wantNoMore(t, "dearer Light", other(func(x *api.Watch) { x.Light += less }), w)
	}
}

// TestMoreGas checks P5.9 of lifts: Held against all heights and degrees, and volumes that add up.
func TestMoreGas(t *testing.T) {
	d := newDice(5)
	for i := range 200 {
		var l []api.Lift
		for range 1 + i%4 {
			l = append(l, lift(1+d.roll(30), 1+d.roll(9)))
		}
		total, sum := 0, 0
		for k, x := range l {
			wantVolume(t, l, total, sum)
			for feet := range x.Rise {
				n, _ := holder.Volume(l[k:k+1], feet)
				wantVolume(t, l, total+feet, sum+n)
			}
			total, sum = total+x.Rise, sum+x.Area*x.Rise
		}
		wantVolume(t, l, total, sum)
		height, warm := anySpan(d, 0, total), anySpan(d, -api.MaxWarm, api.MaxWarm)
		wantHeld(t, l, height, warm, heldOfAll(t, l, height, warm))
		most, _ := holder.Held(l, height, span(warm.Lo, warm.Lo))
		if lower, e := holder.Held(l, height, span(warm.Hi, warm.Hi)); e != api.OK || lower.Hi > most.Hi || lower.Lo > most.Lo {
			t.Errorf("%v at %v holds %v, and %v when it is warmer", l, height, most, lower)
		}
	}
}

func anySpan(d *dice, least, most int) api.Span {
	lo := least + d.roll(most-least+1)
	return span(lo, lo+d.roll(most-lo+1))
}

// heldOfAll returns what Held has to return: the least gas of all heights and degrees, rounded down, and the greatest, rounded up.
func heldOfAll(t *testing.T, l []api.Lift, height, warm api.Span) api.Span {
	t.Helper()
	all := span(math.MaxInt, math.MinInt)
	for h := height.Lo; h <= height.Hi; h++ {
		v, e := holder.Volume(l, h)
		if e != api.OK {
			t.Fatalf("Volume of %v at %d has the error %d", l, h, e)
		}
		for degrees := warm.Lo; degrees <= warm.Hi; degrees++ {
			low := int(math.Floor(500 * float64(v) / float64(500+degrees)))
			high := int(math.Ceil(500 * float64(v) / float64(500+degrees)))
			all = span(min(all.Lo, low), max(all.Hi, high))
		}
	}
	return all
}
