package holder_test

import (
	"slices"
	"testing"

	"gasworks/api"
	"gasworks/holder"
)

func span(lo, hi int) api.Span { return api.Span{Lo: lo, Hi: hi} }

func spans(l ...api.Span) []api.Span { return l }

func lift(area, rise int) api.Lift { return api.Lift{Area: area, Rise: rise} }

// pair returns the lifts of the chapter's examples.
func pair() []api.Lift { return []api.Lift{lift(100, 20), lift(120, 20)} }

// example returns the watch of the chapter's examples.
func example() api.Watch {
	return api.Watch{
		Full: 100, Least: 10, Start: span(40, 45), Draws: spans(span(15, 20), span(25, 35), span(30, 40)),
		Retorts: 2, Lit: 1, Yield: 20, Coal: 5, Light: 7,
	}
}

// changed returns the watch of the examples with a change.
func changed(change func(w *api.Watch)) api.Watch {
	w := example()
	change(&w)
	return w
}

// idle returns the watch of the examples without hours.
func idle() api.Watch { return changed(func(w *api.Watch) { w.Draws = nil }) }

// hopeless returns the watch of the examples with a holder that is too small for any plan.
func hopeless() api.Watch { return changed(func(w *api.Watch) { w.Full = 44 }) }

func row(hour, total, lit, cost int) api.Row {
	return api.Row{Hour: hour, Total: total, Lit: lit, Cost: cost}
}

// exampleRows returns the table of the watch of the examples.
func exampleRows() []api.Row {
	return []api.Row{
		row(0, 0, 1, 27),
		row(1, 0, 0, 34), row(1, 1, 1, 22), row(1, 2, 2, 10),
		row(2, 2, 0, 24), row(2, 2, 1, 17), row(2, 2, 2, 10), row(2, 3, 1, 5), row(2, 3, 2, 5), row(2, 4, 2, 0),
		row(3, 4, 0, 0), row(3, 4, 1, 0), row(3, 4, 2, 0), row(3, 5, 1, 0), row(3, 5, 2, 0), row(3, 6, 2, 0),
	}
}

func wantVolume(t *testing.T, l []api.Lift, height, want int) {
	t.Helper()
	if n, e := holder.Volume(l, height); e != api.OK || n != want {
		t.Errorf("Volume of %v at %d = %d, error %d; want %d", l, height, n, e, want)
	}
}

func wantHeld(t *testing.T, l []api.Lift, height, warm, want api.Span) {
	t.Helper()
	if s, e := holder.Held(l, height, warm); e != api.OK || s != want {
		t.Errorf("Held of %v at %v, warm %v = %v, error %d; want %v", l, height, warm, s, e, want)
	}
}

func wantHolds(t *testing.T, w api.Watch, plan []int, want ...api.Span) {
	t.Helper()
	if l, hours, e := holder.Holds(w, plan); e != api.OK || hours != len(want) || !slices.Equal(l, want) {
		t.Errorf("Holds of %v with %v = %v, %d, error %d; want %v", w, plan, l, hours, e, want)
	}
}

func wantFails(t *testing.T, w api.Watch, plan []int, hour int, want api.Errno) {
	t.Helper()
	if l, h, e := holder.Holds(w, plan); e != want || h != hour || len(l) != 0 {
		t.Errorf("Holds of %v with %v = %v, %d, error %d; want %d, error %d", w, plan, l, h, e, hour, want)
	}
}

func wantPlan(t *testing.T, name string, w api.Watch, cost int, want ...int) {
	t.Helper()
	if l, n, e := holder.Plan(w); e != api.OK || n != cost || !slices.Equal(l, want) {
		t.Errorf("%s: Plan of %v = %v, %d, error %d; want %v, %d", name, w, l, n, e, want, cost)
	}
}

func wantNoPlan(t *testing.T, name string, w api.Watch) {
	t.Helper()
	if l, n, e := holder.Plan(w); e != api.ErrNone || n != 0 || len(l) != 0 {
		t.Errorf("%s: Plan of %v = %v, %d, error %d; want ErrNone", name, w, l, n, e)
	}
}

func wantTable(t *testing.T, name string, w api.Watch, want ...api.Row) {
	t.Helper()
	if l, e := holder.Table(w); e != api.OK || !slices.Equal(l, want) {
		t.Errorf("%s: Table of %v = %v, error %d; want %v", name, w, l, e, want)
	}
}

func wantCheck(t *testing.T, name string, w api.Watch, table []api.Row, plan []int, n int, want api.Errno) {
	t.Helper()
	if i, e := holder.Check(w, table, plan); e != want || i != n {
		t.Errorf("%s: Check of %v with %v and %v = %d, error %d; want %d, error %d", name, w, table, plan, i, e, n, want)
	}
}

func TestVolume(t *testing.T) {
	for height, want := range map[int]int{0: 0, 1: 100, 10: 1000, 19: 1900, 20: 2000, 21: 2120, 30: 3200, 39: 4280, 40: 4400} {
		wantVolume(t, pair(), height, want)
	}
	steps := []api.Lift{lift(7, 1), lift(5, 2), lift(3, 3), lift(1, 4)}
	for height, want := range []int{0, 7, 12, 17, 20, 23, 26, 27, 28, 29, 30} {
		wantVolume(t, steps, height, want)
	}
	wantVolume(t, []api.Lift{lift(1, 1)}, 1, 1)
	wantVolume(t, slices.Repeat([]api.Lift{lift(api.MaxArea, api.MaxRise)}, api.MaxLifts), 400, 40_000_000)
}

func TestHeldOfTheExamples(t *testing.T) {
	wantHeld(t, pair(), span(29, 30), span(0, 125), span(2464, 3200))
}

func TestHeld(t *testing.T) {
	wantHeld(t, pair(), span(30, 30), span(0, 0), span(3200, 3200))
	wantHeld(t, pair(), span(0, 0), span(-150, 150), span(0, 0))
	wantHeld(t, pair(), span(0, 40), span(0, 0), span(0, 4400))
	wantHeld(t, pair(), span(10, 10), span(-100, 125), span(800, 1250))
	// 1000 times 500 is 998 times 501, and 2 more; 1002 times 499, and 2 more.
	wantHeld(t, pair(), span(10, 10), span(1, 1), span(998, 999))
	wantHeld(t, pair(), span(10, 10), span(-1, -1), span(1002, 1003))
	wantHeld(t, pair(), span(10, 10), span(-1, 1), span(998, 1003))
	// 500 divided by 350 or 650; 100 times as much, of which nothing is left over by 650.
	wantHeld(t, []api.Lift{lift(1, 13)}, span(1, 1), span(-150, 150), span(0, 2))
	wantHeld(t, []api.Lift{lift(1, 13)}, span(13, 13), span(150, 150), span(10, 10))
	wantHeld(t, []api.Lift{lift(1, 14)}, span(7, 7), span(-150, -150), span(10, 10))
	most := slices.Repeat([]api.Lift{lift(api.MaxArea, api.MaxRise)}, api.MaxLifts)
	wantHeld(t, most, span(400, 400), span(-150, 150), span(30_769_230, 57_142_858))
}

func TestHoldsOfTheExamples(t *testing.T) {
	wantHolds(t, example(), []int{1, 1, 2}, span(40, 50), span(25, 45), span(25, 55))
	wantFails(t, example(), []int{1, 0, 2}, 1, api.ErrShort)
	wantFails(t, changed(func(w *api.Watch) { w.Full = 60 }), []int{2, 2, 2}, 0, api.ErrFull)
}

// TestHoldsAtTheBounds checks that the bounds are allowed, and that one cubic foot beyond them is not.
func TestHoldsAtTheBounds(t *testing.T) {
	within := func(least, full int) api.Watch {
		return changed(func(w *api.Watch) { w.Least, w.Full = least, full })
	}
	plan := []int{1, 1, 2}
	wantHolds(t, within(25, 55), plan, span(40, 50), span(25, 45), span(25, 55))
	wantFails(t, within(26, 55), plan, 1, api.ErrShort)
	wantFails(t, within(25, 54), plan, 2, api.ErrFull)
	wantFails(t, within(25, 49), plan, 0, api.ErrFull)
	wantFails(t, within(41, 49), plan, 0, api.ErrShort)
	wantFails(t, within(0, 0), plan, 0, api.ErrFull)
	// Before the first hour there are no bounds.
	late := api.Watch{Full: 5, Least: 5, Start: span(9, 9), Draws: spans(span(4, 4))}
	wantHolds(t, late, []int{0}, span(5, 5))
	late.Start = span(0, 0)
	late.Draws[0] = span(0, 0)
	wantFails(t, late, []int{0}, 0, api.ErrShort)
	late.Least = 0
	wantHolds(t, late, []int{0}, span(0, 0))
}

func TestHoldsOfTheGreatest(t *testing.T) {
	w := api.Watch{Full: api.MaxGas, Start: span(0, 0), Retorts: 4, Yield: api.MaxGas, Draws: slices.Repeat(spans(span(api.MaxGas, api.MaxGas)), 12)}
	wantHolds(t, w, slices.Repeat([]int{1}, 12), make([]api.Span, 12)...)
	wantFails(t, w, slices.Repeat([]int{4}, 12), 0, api.ErrFull)
	wantFails(t, w, make([]int, 12), 0, api.ErrShort)
}

func TestPlan(t *testing.T) {
	wantPlan(t, "the example", example(), 27, 1, 1, 2)
	wantPlan(t, "lighting costs nothing", changed(func(w *api.Watch) { w.Light = 0 }), 20, 0, 2, 2)
	wantPlan(t, "coal costs nothing", changed(func(w *api.Watch) { w.Coal = 0 }), 7, 1, 1, 2)
	wantPlan(t, "two are lit", changed(func(w *api.Watch) { w.Lit = 2 }), 20, 2, 1, 1)
	wantPlan(t, "none is lit", changed(func(w *api.Watch) { w.Lit = 0 }), 34, 0, 2, 2)
	wantPlan(t, "all is free", changed(func(w *api.Watch) { w.Coal, w.Light = 0, 0 }), 0, 0, 2, 2)
	wantPlan(t, "no hours", idle(), 0)
	wantPlan(t, "just room", changed(func(w *api.Watch) { w.Full, w.Least = 55, 25 }), 27, 1, 1, 2)
	wantPlan(t, "no retorts are needed", changed(func(w *api.Watch) { w.Least, w.Draws = 0, w.Draws[:1] }), 0, 0)
}

func TestNoPlan(t *testing.T) {
	wantNoPlan(t, "drawn too much", changed(func(w *api.Watch) { w.Draws[2] = span(30, 100) }))
	wantNoPlan(t, "too small", hopeless())
	wantNoPlan(t, "no retorts", changed(func(w *api.Watch) { w.Retorts, w.Lit = 0, 0 }))
	wantNoPlan(t, "too full at first", changed(func(w *api.Watch) { w.Start = span(40, 150) }))
	wantNoPlan(t, "known too badly", changed(func(w *api.Watch) { w.Draws[0] = span(0, 86) }))
	wantNoPlan(t, "one cubic foot too many", changed(func(w *api.Watch) { w.Full, w.Least = 55, 26 }))
}

func TestTable(t *testing.T) {
	wantTable(t, "the example", example(), exampleRows()...)
	wantTable(t, "no hours", idle(), row(0, 0, 1, 0))
	wantTable(t, "one hour", changed(func(w *api.Watch) { w.Draws = w.Draws[:1] }), row(0, 0, 1, 0), row(1, 0, 0, 0), row(1, 1, 1, 0), row(1, 2, 2, 0))
	wantTable(t, "too small", hopeless(), row(0, 0, 1, -1), row(1, 0, 0, -1))
	wantTable(t, "too small at once", changed(func(w *api.Watch) { w.Full = 29 }), row(0, 0, 1, -1))
	wantTable(t, "drawn too much", changed(func(w *api.Watch) { w.Draws[2] = span(30, 100) }),
		row(0, 0, 1, -1), row(1, 0, 0, -1), row(1, 1, 1, -1), row(1, 2, 2, -1),
		row(2, 2, 0, -1), row(2, 2, 1, -1), row(2, 2, 2, -1), row(2, 3, 1, -1), row(2, 3, 2, -1), row(2, 4, 2, -1))
}

func TestCheckOfTheExamples(t *testing.T) {
	wantCheck(t, "the plan", example(), exampleRows(), []int{1, 1, 2}, 16, api.OK)
	wantCheck(t, "another one", example(), exampleRows(), []int{1, 2, 1}, 16, api.OK)
	wantCheck(t, "one that lights two", example(), exampleRows(), []int{2, 2, 0}, 16, api.OK)
	wantCheck(t, "a dear one", example(), exampleRows(), []int{2, 2, 1}, 16, api.ErrNone)
	wantCheck(t, "a Cost too great", example(), priced(2, 23), []int{1, 1, 2}, 2, api.ErrRefuse)
	wantCheck(t, "a Cost too low", example(), priced(1, 30), []int{1, 1, 2}, 16, api.OK)
}

// priced returns the table of the examples with another Cost in one row.
func priced(i, cost int) []api.Row {
	l := exampleRows()
	l[i].Cost = cost
	return l
}
