package holder_test

import (
	"math"
	"slices"
	"testing"

	"gasworks/api"
	"gasworks/holder"
)

func wantNoVolume(t *testing.T, l []api.Lift, height int, want api.Errno) {
	t.Helper()
	if n, e := holder.Volume(l, height); e != want || n != 0 {
		t.Errorf("Volume of %v at %d = %d, error %d; want error %d", l, height, n, e, want)
	}
}

func wantNotHeld(t *testing.T, l []api.Lift, height, warm api.Span, want api.Errno) {
	t.Helper()
	if s, e := holder.Held(l, height, warm); e != want || s != (api.Span{}) {
		t.Errorf("Held of %v at %v, warm %v = %v, error %d; want error %d", l, height, warm, s, e, want)
	}
}

func TestLiftsThatAreNotValid(t *testing.T) {
	for name, l := range map[string][]api.Lift{
		"nil":               nil,
		"none":              {},
		"too many":          slices.Repeat([]api.Lift{lift(1, 1)}, api.MaxLifts+1),
		"of nothing":        make([]api.Lift, 2),
		"no Area":           {lift(100, 20), lift(0, 20)},
		"Area below 0":      {lift(-1, 20)},
		"Area too great":    {lift(1, 1), lift(1, 1), lift(1, 1), lift(api.MaxArea+1, 1)},
		"no Rise":           {lift(100, 0)},
		"Rise below 0":      {lift(100, 20), lift(100, -1)},
		"Rise too great":    {lift(100, api.MaxRise+1)},
		"the greatest Rise": {lift(100, math.MaxInt), lift(100, math.MaxInt)},
		"the least Area":    {lift(math.MinInt, 1)},
	} {
		t.Run(name, func(t *testing.T) {
			for _, height := range []int{0, 1, -1, 1000} {
				wantNoVolume(t, l, height, api.ErrArg)
				wantNotHeld(t, l, span(height, height), span(0, 0), api.ErrArg)
				wantNotHeld(t, l, span(0, 0), span(0, height), api.ErrArg)
			}
		})
	}
}

func TestHeightsThatAreNone(t *testing.T) {
	for _, height := range []int{-1, 41, 1000, math.MinInt, math.MaxInt} {
		wantNoVolume(t, pair(), height, api.ErrRange)
		wantNotHeld(t, pair(), span(height, height), span(0, 0), api.ErrRange)
	}
	for _, height := range spans(span(-1, 1), span(40, 41), span(2, 1), span(40, 0), span(math.MinInt, math.MaxInt)) {
		wantNotHeld(t, pair(), height, span(0, 0), api.ErrRange)
	}
	for _, warm := range spans(span(-151, 0), span(0, 151), span(1, 0), span(-500, -500), span(-501, -501), span(math.MinInt, math.MaxInt)) {
		wantNotHeld(t, pair(), span(1, 2), warm, api.ErrRange)
	}
}

// wantNotValid checks that a watch is not valid, whatever else is wrong with it, with the plan or with the table.
func wantNotValid(t *testing.T, w api.Watch) {
	t.Helper()
	for _, plan := range [][]int{nil, {1, 1, 2}, {9}, make([]int, 13)} {
		wantFails(t, w, plan, 0, api.ErrArg)
		for _, table := range [][]api.Row{nil, exampleRows(), make([]api.Row, api.MaxRows+1)} {
			wantCheck(t, "not valid", w, table, plan, 0, api.ErrArg)
		}
	}
	if l, n, e := holder.Plan(w); e != api.ErrArg || n != 0 || len(l) != 0 {
		t.Errorf("Plan of %v = %v, %d, error %d; want ErrArg", w, l, n, e)
	}
	if l, e := holder.Table(w); e != api.ErrArg || len(l) != 0 {
		t.Errorf("Table of %v = %v, error %d; want ErrArg", w, l, e)
	}
}

func TestWatchesThatAreNotValid(t *testing.T) {
	for name, spoil := range map[string]func(w *api.Watch){
		"Full too great":     func(w *api.Watch) { w.Full = api.MaxGas + 1 },
		"Full below 0":       func(w *api.Watch) { w.Full, w.Least = -1, -1 },
		"Least above Full":   func(w *api.Watch) { w.Least = 101 },
		"Least below 0":      func(w *api.Watch) { w.Least = -1 },
		"Start below 0":      func(w *api.Watch) { w.Start = span(-1, 0) },
		"Start wrong way":    func(w *api.Watch) { w.Start = span(2, 1) },
		"Start too great":    func(w *api.Watch) { w.Start = span(0, api.MaxGas+1) },
		"a draw below 0":     func(w *api.Watch) { w.Draws[0] = span(-1, 0) },
		"a draw wrong way":   func(w *api.Watch) { w.Draws[2] = span(2, 1) },
		"a draw too great":   func(w *api.Watch) { w.Draws[1] = span(0, api.MaxGas+1) },
		"a draw of all":      func(w *api.Watch) { w.Draws[1] = span(math.MinInt, math.MaxInt) },
		"too many draws":     func(w *api.Watch) { w.Draws = make([]api.Span, api.MaxWatch+1) },
		"too many retorts":   func(w *api.Watch) { w.Retorts = api.MaxRetorts + 1 },
		"retorts below 0":    func(w *api.Watch) { w.Retorts, w.Lit = -1, -1 },
		"Lit above Retorts":  func(w *api.Watch) { w.Lit = 3 },
		"Lit below 0":        func(w *api.Watch) { w.Lit = -1 },
		"Yield below 0":      func(w *api.Watch) { w.Yield = -1 },
		"Yield too great":    func(w *api.Watch) { w.Yield = api.MaxGas + 1 },
		"Coal below 0":       func(w *api.Watch) { w.Coal = -1 },
		"Coal too great":     func(w *api.Watch) { w.Coal = api.MaxCoal + 1 },
		"Light below 0":      func(w *api.Watch) { w.Light = -1 },
		"Light too great":    func(w *api.Watch) { w.Light = api.MaxCoal + 1 },
		"the least Light":    func(w *api.Watch) { w.Light = math.MinInt },
		"the greatest Yield": func(w *api.Watch) { w.Yield = math.MaxInt },
	} {
		t.Run(name, func(t *testing.T) {
			w := example()
			spoil(&w)
			wantNotValid(t, w)
		})
	}
}

func TestWatchesAtTheirLimits(t *testing.T) {
	wantHolds(t, api.Watch{}, nil)
	wantPlan(t, "the least numbers", api.Watch{}, 0)
	wantTable(t, "the least numbers", api.Watch{}, row(0, 0, 0, 0))
	most := api.Watch{
		Full: api.MaxGas, Least: api.MaxGas, Start: span(api.MaxGas, api.MaxGas), Draws: slices.Repeat(spans(span(api.MaxGas, api.MaxGas)), api.MaxWatch),
		Retorts: api.MaxRetorts, Lit: 0, Yield: api.MaxGas, Coal: api.MaxCoal, Light: api.MaxCoal,
	}
	wantPlan(t, "the greatest numbers", most, 130_000, slices.Repeat([]int{1}, 12)...)
	most.Lit = api.MaxRetorts
	wantPlan(t, "all lit", most, 120_000, slices.Repeat([]int{1}, 12)...)
}

func TestPlansThatAreNone(t *testing.T) {
	for _, plan := range [][]int{nil, {1, 1}, {1, 1, 2, 0}, {3, 1, 1}, {1, 1, 3}, {1, -1, 1}, {math.MaxInt, 1, 1}, {1, 1, math.MinInt}, make([]int, 1000)} {
		wantFails(t, example(), plan, 0, api.ErrRange)
		wantCheck(t, "no plan", example(), exampleRows(), plan, 16, api.ErrState)
	}
	// That a plan is none comes before an hour after which it does not hold.
	wantFails(t, example(), []int{0, 0, 3}, 0, api.ErrRange)
	wantFails(t, idle(), []int{0}, 0, api.ErrRange)
}

// edited returns the table of the examples after a change.
func edited(edit func(l []api.Row) []api.Row) []api.Row { return edit(exampleRows()) }

func TestRowsThatAreNone(t *testing.T) {
	plan := []int{1, 1, 2}
	for name, r := range map[string]api.Row{
		"Hour below 0":         row(-1, 0, 1, 0),
		"Hour too great":       row(4, 4, 1, 0),
		"the greatest Hour":    row(math.MaxInt, 0, 1, 0),
		"Total below 0":        row(2, -1, 1, 0),
		"Total too great":      row(2, 5, 1, 0),
		"Total before hours":   row(0, 1, 1, 0),
		"Lit below 0":          row(2, 2, -1, 0),
		"Lit too great":        row(2, 2, 3, 0),
		"Cost below NoWay":     row(2, 2, 1, -2),
		"Cost too great":       row(2, 2, 1, api.MaxPay+1),
		"Cost of all":          row(2, 2, 1, math.MaxInt),
		"not a row, and early": row(0, 0, 3, 0),
	} {
		for _, i := range []int{0, 5, 15} {
			l := exampleRows()
			l[i] = r
			wantCheck(t, name, example(), l, plan, i, api.ErrRange)
			// A row that does not come in order decides if it stands before.
			if i > 2 {
				l[2] = l[1]
				wantCheck(t, name+", after a row out of order", example(), l, plan, 2, api.ErrOrder)
			}
		}
	}
	wantCheck(t, "the greatest Cost", example(), edited(func(l []api.Row) []api.Row { l[0].Cost = api.MaxPay; return l }), plan, 0, api.ErrRefuse)
	wantCheck(t, "a row that is none decides before what is refused", example(), edited(func(l []api.Row) []api.Row { l[0].Cost, l[15].Hour = 28, 4; return l }), plan, 15, api.ErrRange)
}

func TestRowsOutOfOrder(t *testing.T) {
	for i, pair := range [][2]api.Row{
		{row(1, 1, 1, 22), row(1, 1, 1, 22)}, {row(1, 1, 1, 22), row(1, 1, 1, 0)}, {row(1, 1, 1, 5), row(1, 1, 0, 5)}, {row(1, 1, 0, 5), row(1, 0, 2, 5)}, {row(2, 0, 0, 5), row(1, 2, 2, 5)},
	} {
		wantCheck(t, "out of order", example(), pair[:], nil, 1, api.ErrOrder)
		wantCheck(t, "out of order", example(), []api.Row{row(0, 0, 0, 99), pair[0], pair[1]}, nil, 2, api.ErrOrder)
		if i > 1 {
			wantCheck(t, "in order", example(), []api.Row{pair[1], pair[0]}, nil, 0, api.ErrShort)
		}
	}
}

func TestTooManyRows(t *testing.T) {
	wantCheck(t, "too many", example(), make([]api.Row, api.MaxRows+1), nil, 0, api.ErrLong)
	wantCheck(t, "too many that are none", example(), slices.Repeat([]api.Row{row(-1, 0, 0, 0)}, api.MaxRows+1), nil, 0, api.ErrLong)
	wantCheck(t, "as many as may be", example(), make([]api.Row, api.MaxRows), nil, 1, api.ErrOrder)
}

func TestRowsThatLack(t *testing.T) {
	plan := []int{1, 1, 2}
	without := func(i int) []api.Row {
		return edited(func(l []api.Row) []api.Row { return slices.Delete(l, i, i+1) })
	}
	// The first row from which a step leads to the row that lacks, in the table without it; of the first state, none.
	for i, want := range []int{15, 0, 0, 0, 3, 2, 1, 3, 2, 3, 9, 7, 4, 9, 7, 9} {
		if i == 0 {
			wantCheck(t, "without the first state", example(), without(i), plan, want, api.ErrNone)
			continue
		}
		wantCheck(t, "without a row", example(), without(i), plan, want, api.ErrShort)
	}
	wantCheck(t, "no rows", example(), nil, plan, 0, api.ErrNone)
	wantCheck(t, "the last hour alone", example(), exampleRows()[10:], plan, 6, api.ErrNone)
	wantCheck(t, "another first state", example(), edited(func(l []api.Row) []api.Row { l[0] = row(0, 0, 0, 34); return l }), plan, 16, api.ErrNone)
	// What lacks comes before what is refused in the same row, and after it in a later one.
	wantCheck(t, "lacks, and is refused", example(), edited(func(l []api.Row) []api.Row { l[0].Cost = 99; return slices.Delete(l, 3, 4) }), plan, 0, api.ErrShort)
	wantCheck(t, "is refused before another lacks", example(), edited(func(l []api.Row) []api.Row { l[0].Cost = 28; return l[:15] }), plan, 0, api.ErrRefuse)
}

func TestRowsThatAreRefused(t *testing.T) {
	plan := []int{1, 1, 2}
	for i, r := range exampleRows() {
		wantCheck(t, "one too many", example(), priced(i, r.Cost+1), plan, i, api.ErrRefuse)
		wantCheck(t, "no way", example(), priced(i, api.NoWay), plan, i, api.ErrRefuse)
	}
	// A Cost that is too low is refused where a state before it still goes by more.
	wantCheck(t, "too low for the row 0", example(), priced(2, 21), plan, 0, api.ErrRefuse)
	wantCheck(t, "a first Cost that proves too little", example(), priced(0, 26), plan, 16, api.ErrNone)
	// Of a state without any way on, any Cost is true.
	w := hopeless()
	w.Draws = w.Draws[:2]
	for _, cost := range []int{api.NoWay, 0, 5, api.MaxPay} {
		wantCheck(t, "no way on", w, []api.Row{row(0, 0, 1, api.NoWay), row(1, 0, 0, api.NoWay), row(1, 1, 1, cost)}, nil, 3, api.OK)
	}
	wantCheck(t, "no way, but to a Cost", w, []api.Row{row(0, 0, 1, api.NoWay), row(1, 0, 0, 5)}, nil, 0, api.ErrRefuse)
	wantCheck(t, "a Cost, but no way", w, []api.Row{row(0, 0, 1, 5), row(1, 0, 0, api.NoWay)}, nil, 2, api.ErrState)
}

// TestCheckWithoutAPlan checks what is said of an empty plan.
func TestCheckWithoutAPlan(t *testing.T) {
	none := []api.Row{row(0, 0, 1, api.NoWay), row(1, 0, 0, api.NoWay)}
	wantCheck(t, "no plan holds", hopeless(), none, nil, 2, api.OK)
	wantCheck(t, "no plan holds", hopeless(), none, []int{}, 2, api.OK)
	wantCheck(t, "a plan that cannot hold", hopeless(), none, []int{0, 1, 1}, 2, api.ErrState)
	wantCheck(t, "a plan that is none", hopeless(), none, []int{9}, 2, api.ErrState)
	wantCheck(t, "a Cost without a way", hopeless(), []api.Row{row(0, 0, 1, 5), row(1, 0, 0, api.NoWay)}, nil, 2, api.ErrState)
	wantCheck(t, "there is a plan", example(), exampleRows(), nil, 16, api.ErrState)
	wantCheck(t, "a plan that does not hold", example(), exampleRows(), []int{1, 0, 2}, 16, api.ErrState)
	wantCheck(t, "no hours", idle(), []api.Row{row(0, 0, 1, 0)}, nil, 1, api.OK)
	wantCheck(t, "no hours, and a Cost", idle(), []api.Row{row(0, 0, 1, 1)}, nil, 0, api.ErrRefuse)
	wantCheck(t, "no hours, and no way", idle(), []api.Row{row(0, 0, 1, api.NoWay)}, nil, 0, api.ErrRefuse)
	wantCheck(t, "no hours, and a plan", idle(), []api.Row{row(0, 0, 1, 0)}, []int{0}, 1, api.ErrState)
	wantCheck(t, "no hours, another first state", idle(), []api.Row{row(0, 0, 0, 0), row(0, 0, 2, 0)}, nil, 2, api.ErrNone)
}

// TestAnyArguments calls all functions with numbers of all sizes: none of them panics or runs on, and none returns a result besides an error.
func TestAnyArguments(t *testing.T) {
	some := []int{math.MinInt, -1, 0, 1, 2, 3, 4, 5, 12, 13, 100, 150, 10_000, 1 << 30, 1<<30 + 1, 1 << 40, math.MaxInt}
	d := newDice(7)
	one := func() int { return some[d.roll(len(some))] }
	for range 5000 {
		w := example()
		for range d.roll(3) {
			numbers := []*int{&w.Full, &w.Least, &w.Start.Lo, &w.Start.Hi, &w.Draws[0].Lo, &w.Draws[2].Hi, &w.Retorts, &w.Lit, &w.Yield, &w.Coal, &w.Light}
			*numbers[d.roll(len(numbers))] = one()
		}
		w.Draws = slices.Repeat(w.Draws[:d.roll(4)], d.roll(5))
		plan := make([]int, len(w.Draws)+d.roll(20)/19)
		for hour := range plan {
			plan[hour] = d.roll(5) - d.roll(10)/9
		}
		table := exampleRows()[d.roll(16)/10:]
		for range d.roll(3) {
			r := &table[d.roll(len(table))]
			numbers := []*int{&r.Hour, &r.Total, &r.Lit, &r.Cost}
			*numbers[d.roll(4)] = one()
		}
		lifts := []api.Lift{lift(1+d.roll(9), 1+d.roll(9)), lift(one(), one())}
		callAll(t, w, plan, table, lifts[:1+d.roll(2)], span(one(), one()), span(one(), one()))
	}
}

func callAll(t *testing.T, w api.Watch, plan []int, table []api.Row, lifts []api.Lift, height, warm api.Span) {
	t.Helper()
	held, hour, e := holder.Holds(w, plan)
	if e == api.OK && (hour != len(plan) || len(held) != hour) || e != api.OK && len(held) != 0 || (e == api.ErrArg || e == api.ErrRange) && hour != 0 {
		t.Errorf("Holds of %v with %v = %v, %d, error %d", w, plan, held, hour, e)
	}
	best, cost, other := holder.Plan(w)
	if (other == api.ErrArg) != (e == api.ErrArg) || other == api.OK && len(best) != len(w.Draws) || other != api.OK && (len(best) != 0 || cost != 0) {
		t.Errorf("Plan of %v = %v, %d, error %d; Holds has the error %d", w, best, cost, other, e)
	}
	proof, other := holder.Table(w)
	if (other == api.ErrArg) != (e == api.ErrArg) || (other == api.OK) != (len(proof) > 0) || len(proof) > api.MaxRows {
		t.Errorf("Table of %v = %v, error %d; Holds has the error %d", w, proof, other, e)
	}
	n, other := holder.Check(w, table, plan)
	if (other == api.ErrArg) != (e == api.ErrArg) || n < 0 || n > len(table) || other == api.OK && n != len(table) {
		t.Errorf("Check of %v with %v and %v = %d, error %d; Holds has the error %d", w, table, plan, n, other, e)
	}
	v, e := holder.Volume(lifts, height.Lo)
	if v < 0 || e != api.OK && v != 0 {
		t.Errorf("Volume of %v at %d = %d, error %d", lifts, height.Lo, v, e)
	}
	s, e := holder.Held(lifts, height, warm)
	if s.Lo < 0 || s.Lo > s.Hi || e != api.OK && s != (api.Span{}) {
		t.Errorf("Held of %v at %v, warm %v = %v, error %d", lifts, height, warm, s, e)
	}
}
