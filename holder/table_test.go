package holder_test

import (
	"reflect"
	"slices"
	"testing"

	"gasworks/api"
	"gasworks/holder"
)

// allows tells whether the holder keeps its bounds after an hour in each course, by what was made and by what was drawn.
func allows(w api.Watch, hour, total int) bool {
	low, high := w.Start.Lo, w.Start.Hi
	for _, s := range w.Draws[:hour+1] {
		low, high = low-s.Hi, high-s.Lo
	}
	made := total * w.Yield
	return low+made >= w.Least && high+made <= w.Full
}

// A move is where a step leads, and what it costs.
type move struct {
	to    api.Row
	price int
}

// moves returns the steps from the state of a row.
func moves(w api.Watch, r api.Row) []move {
	var l []move
	if r.Hour == len(w.Draws) {
		return nil
	}
	for lit := 0; lit <= w.Retorts; lit++ {
		if allows(w, r.Hour, r.Total+lit) {
			l = append(l, move{to: row(r.Hour+1, r.Total+lit, lit, 0), price: w.Coal*lit + w.Light*max(lit-r.Lit, 0)})
		}
	}
	return l
}

// rest returns the least that steps from a state to the last hour cost, or NoWay.
func rest(w api.Watch, r api.Row) int {
	if r.Hour == len(w.Draws) {
		return 0
	}
	least := api.NoWay
	for _, m := range moves(w, r) {
		if n := rest(w, m.to); n >= 0 && (least < 0 || n+m.price < least) {
			least = n + m.price
		}
	}
	return least
}

// tableOf returns what Table has to return, by all ways on which steps can lead.
func tableOf(w api.Watch) []api.Row {
	var all []api.Row
	var visit func(r api.Row)
	visit = func(r api.Row) {
		r.Cost = rest(w, r)
		if !slices.Contains(all, r) {
			all = append(all, r)
		}
		for _, m := range moves(w, r) {
			visit(m.to)
		}
	}
	visit(row(0, 0, w.Lit, 0))
	slices.SortFunc(all, func(a, b api.Row) int {
		return ((a.Hour-b.Hour)*100+a.Total-b.Total)*10 + a.Lit - b.Lit
	})
	return all
}

func isRow(w api.Watch, r api.Row) bool {
	return r.Hour >= 0 && r.Hour <= len(w.Draws) && r.Total >= 0 && r.Total <= r.Hour*w.Retorts && r.Lit >= 0 && r.Lit <= w.Retorts && r.Cost >= -1 && r.Cost <= api.MaxPay
}

// hasRow tells whether a state has a row in a table.
func hasRow(table []api.Row, state api.Row) bool {
	return slices.ContainsFunc(table, func(r api.Row) bool {
		r.Cost, state.Cost = 0, 0
		return r == state
	})
}

// checked returns what Check has to return, promise by promise.
func checked(w api.Watch, table []api.Row, plan []int) (int, api.Errno) {
	for i, r := range table {
		if !isRow(w, r) {
			return i, api.ErrRange
		}
		if i > 0 && (r.Hour*100+r.Total)*10+r.Lit <= (table[i-1].Hour*100+table[i-1].Total)*10+table[i-1].Lit {
			return i, api.ErrOrder
		}
	}
	for i, r := range table {
		if e := checkedRow(w, table, r); e != api.OK {
			return i, e
		}
	}
	return len(table), checkedPlan(w, table, plan)
}

func checkedRow(w api.Watch, table []api.Row, r api.Row) api.Errno {
	for _, m := range moves(w, r) {
		if !hasRow(table, m.to) {
			return api.ErrShort
		}
	}
	if r.Hour == len(w.Draws) && r.Cost != 0 {
		return api.ErrRefuse
	}
	for _, m := range moves(w, r) {
		next := costOf(table, m.to)
		if next != api.NoWay && (r.Cost == api.NoWay || r.Cost > m.price+next) {
			return api.ErrRefuse
		}
	}
	return api.OK
}

func checkedPlan(w api.Watch, table []api.Row, plan []int) api.Errno {
	first := row(0, 0, w.Lit, 0)
	if !hasRow(table, first) {
		return api.ErrNone
	}
	least := costOf(table, first)
	_, _, e := holder.Holds(w, plan)
	switch {
	case least == api.NoWay && len(plan) > 0, least != api.NoWay && e != api.OK:
		return api.ErrState
	case least != api.NoWay && cost(w, plan) > least:
		return api.ErrNone
	}
	return api.OK
}

// TestTableOfAllWays holds Table against all ways on which steps can lead.
func TestTableOfAllWays(t *testing.T) {
	d := newDice(11)
	for i := range 300 {
		w := anyWatch(d, i%6, d.roll(4), 2)
		wantTable(t, "all ways", w, tableOf(w)...)
	}
}

// worse returns a table with a few changes.
func worse(d *dice, w api.Watch, table []api.Row) []api.Row {
	l := slices.Clone(table)
	for range d.roll(4) {
		if len(l) == 0 {
			break
		}
		i := d.roll(len(l))
		switch d.roll(8) {
		case 0, 1, 2:
			l[i].Cost -= d.roll(4)
		case 3:
			l[i].Cost += d.roll(3)
		case 4:
			l[i].Cost = api.NoWay
		case 5:
			l = slices.Delete(l, i, i+1)
		case 6:
			l = slices.Insert(l, i, row(l[i].Hour, l[i].Total, d.roll(w.Retorts+1), d.roll(9)))
		case 7:
			l[i].Total += d.roll(3) - 1
		}
	}
	return l
}

// anyPlan returns the plan, another one, or none.
func anyPlan(d *dice, w api.Watch, plan []int) []int {
	other := slices.Clone(plan)
	switch d.roll(4) {
	case 0:
		return nil
	case 1:
		for hour := range other {
			other[hour] = d.roll(w.Retorts + 1)
		}
	case 2:
		if len(other) > 0 {
			other[d.roll(len(other))] = d.roll(w.Retorts + 1)
		}
	}
	return other
}

// TestCheckOfWorseTables holds Check against the promises, with tables that are wrong somewhere; what it accepts is true.
func TestCheckOfWorseTables(t *testing.T) {
	d := newDice(12)
	results := map[api.Errno]int{}
	for i := range 3000 {
		w := anyWatch(d, i%4, d.roll(3), 1)
		right, least := best(w)
		table, _ := holder.Table(w)
		for range 5 {
			l, plan := worse(d, w, table), anyPlan(d, w, right)
			n, e := checked(w, l, plan)
			results[e]++
			wantCheck(t, "a worse table", w, l, plan, n, e)
			if e == api.OK && (len(plan) > 0 || len(w.Draws) > 0) && (len(plan) > 0) != (least >= 0) || e == api.OK && least >= 0 && cost(w, plan) != least {
				t.Errorf("%v proves that %v is the plan of %v; that is %v", l, plan, w, right)
			}
		}
	}
	for _, e := range []api.Errno{api.OK, api.ErrRange, api.ErrOrder, api.ErrShort, api.ErrRefuse, api.ErrNone, api.ErrState} {
		if results[e] < 50 {
			t.Errorf("the error %d came %d times", e, results[e])
		}
	}
}

// TestTableOfAllStates checks that rows of states which cannot be reached are held against the others too.
func TestTableOfAllStates(t *testing.T) {
	w := changed(func(w *api.Watch) { w.Least, w.Full = 0, 1000 })
	var all []api.Row
	for hour := range 4 {
		for total := range 2*hour + 1 {
			for lit := range 3 {
				r := row(hour, total, lit, 0)
				r.Cost = rest(w, r)
				all = append(all, r)
			}
		}
	}
	plan, _, _ := holder.Plan(w)
	wantCheck(t, "all states", w, all, plan, len(all), api.OK)
	i := slices.IndexFunc(all, func(r api.Row) bool { return r.Hour == 1 && r.Total == 0 && r.Lit == 2 })
	all[i].Cost++
	wantCheck(t, "a Cost too great where nothing leads", w, all, plan, i, api.ErrRefuse)
}

// TestMemory checks that the arguments stay as they are, and that a result is not changed by what is done with another one.
func TestMemory(t *testing.T) {
	w, plan, table, lifts := example(), []int{1, 1, 2}, exampleRows(), pair()
	w.Draws = append(make([]api.Span, 0, 20), w.Draws...)
	draws := slices.Clone(w.Draws[:cap(w.Draws)])
	for range 3 {
		held, _, _ := holder.Holds(w, plan)
		best, _, _ := holder.Plan(w)
		proof, _ := holder.Table(w)
		n, e := holder.Check(w, table, plan)
		volume, _ := holder.Volume(lifts, 30)
		if !slices.Equal(held, spans(span(40, 50), span(25, 45), span(25, 55))) || !slices.Equal(best, []int{1, 1, 2}) || !slices.Equal(proof, exampleRows()) || n != 16 || e != api.OK || volume != 3200 {
			t.Fatalf("the results are %v, %v, %v, %d, error %d, and %d", held, best, proof, n, e, volume)
		}
		clear(held[:cap(held)])
		clear(best[:cap(best)])
		clear(proof[:cap(proof)])
		holder.Plan(hopeless())
		if !reflect.DeepEqual(w, example()) || !slices.Equal(draws, w.Draws[:cap(draws)]) || !slices.Equal(plan, []int{1, 1, 2}) || !slices.Equal(table, exampleRows()) || !slices.Equal(lifts, pair()) {
			t.Fatalf("the arguments are %v, %v, %v and %v", w, plan, table, lifts)
		}
	}
}
