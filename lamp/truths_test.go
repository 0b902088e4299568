package lamp_test

import (
	"slices"
	"testing"

	"gasworks/api"
)

// A dice rolls the same numbers in each run of the tests.
type dice struct{ at uint64 }

func newDice(seed uint64) *dice { return &dice{at: seed} }

func (d *dice) roll(n int) int {
	d.at = d.at*6364136223846793005 + 1442695040888963407
	return int(d.at >> 33 % uint64(n))
}

// burnsIn tells of each minute whether lamps burn in it, as the chapter's terms say.
func burnsIn(n api.Night) []bool {
	dark := func(minute int) bool { return n.Dusk <= minute && minute < n.Dawn }
	moon := func(minute int) bool { return n.Rise <= minute && minute < n.Set }
	both := 0
	for minute := range api.MaxMinute {
		if dark(minute) && moon(minute) {
			both++
		}
	}
	out := both >= n.Least && both >= 1
	l := make([]bool, api.MaxMinute)
	for minute := range l {
		l[minute] = dark(minute) && !(moon(minute) && out)
	}
	return l
}

// wantMinutes checks that the spans of a night are those of its minutes, each as long as can be.
func wantMinutes(t *testing.T, n api.Night) {
	t.Helper()
	var want []api.Span
	for minute, burns := range burnsIn(n) {
		last := len(want) - 1
		switch {
		case !burns:
		case last >= 0 && want[last].Hi == minute:
			want[last].Hi++
		default:
			want = append(want, span(minute, minute+1))
		}
	}
	wantBurns(t, "minute by minute", n, want...)
}

func TestBurnsMinuteByMinute(t *testing.T) {
	for dusk := range 4 {
		for dawn := dusk; dawn < 5; dawn++ {
			for rise := range 5 {
				for set := rise; set < 6; set++ {
					for least := range 5 {
						wantMinutes(t, api.Night{Dusk: dusk, Dawn: dawn, Rise: rise, Set: set, Least: least})
					}
				}
			}
		}
	}
	d := newDice(1)
	for range 3000 {
		wantMinutes(t, anyNight(d))
	}
}

// anyNight returns some night. Its moonlight often lasts about as long as Least.
func anyNight(d *dice) api.Night {
	times := []int{d.roll(2881), d.roll(2881), d.roll(2881), d.roll(2881)}
	slices.Sort(times[:2])
	slices.Sort(times[2:])
	n := api.Night{Dusk: times[0], Dawn: times[1], Rise: times[2], Set: times[3], Least: d.roll(2881)}
	if both := min(n.Dawn, n.Set) - max(n.Dusk, n.Rise); both > 0 && d.roll(2) == 0 {
		n.Least = both - 1 + d.roll(3)
	}
	return n
}

// far is more minutes than any way takes.
const far = 1_000_000

// A guide is how many minutes each way takes, or far.
type guide [][]int

// newGuide makes ways shorter by a street as long as that can be done.
func newGuide(w api.Town) guide {
	g := make(guide, w.Corners)
	for from := range g {
		g[from] = slices.Repeat([]int{far}, w.Corners)
		g[from][from] = 0
	}
	for again := true; again; {
		again = false
		for from := range g {
			for _, s := range w.Streets {
				for _, end := range [][2]int{{s.A, s.B}, {s.B, s.A}} {
					if n := g[from][end[0]] + s.Minutes; n < g[from][end[1]] {
						g[from][end[1]], again = n, true
					}
				}
			}
		}
	}
	return g
}

// follow returns when the lamps of a round are begun to be lit, up to the first one with an error.
func (g guide) follow(w api.Town, round []int) (times []int, index int, e api.Errno) {
	minute, corner := w.Start, 0
	for i, n := range round {
		switch {
		case n < 0 || n >= len(w.Lamps):
			return nil, i, api.ErrRange
		case slices.Contains(round[:i], n):
			return nil, i, api.ErrTwice
		case g[corner][w.Lamps[n].Corner] >= far:
			return nil, i, api.ErrNone
		}
		minute, corner = minute+g[corner][w.Lamps[n].Corner], w.Lamps[n].Corner
		for minute < w.Lamps[n].Early {
			minute++
		}
		if minute > w.Lamps[n].Late {
			return nil, i, api.ErrOrder
		}
		times = append(times, minute)
		minute += w.Each
	}
	return times, len(round), api.OK
}

// everyOrder calls a function for each order of some numbers, in lexicographic order, until it returns true.
func everyOrder(numbers []int, found func(order []int) bool) bool {
	var order []int
	var choose func() bool
	choose = func() bool {
		if len(order) == len(numbers) {
			return found(order)
		}
		for _, n := range numbers {
			if slices.Contains(order, n) {
				continue
			}
			order = append(order, n)
			if choose() {
				return true
			}
			order = order[:len(order)-1]
		}
		return false
	}
	return choose()
}

// numbersOf returns the lamps of a set.
func numbersOf(set int) []int {
	var l []int
	for i := range api.MaxLamps {
		if set&(1<<i) != 0 {
			l = append(l, i)
		}
	}
	return l
}

// firstOrder returns the first order of a set of lamps that is a round in time, if there is one.
func (g guide) firstOrder(w api.Town, set int) (first []int, is bool) {
	is = everyOrder(numbersOf(set), func(order []int) bool {
		_, _, e := g.follow(w, order)
		if e == api.OK {
			first = slices.Clone(order)
		}
		return e == api.OK
	})
	return first, is
}

// everyAllotment calls a function for each allotment of so many lamps, in lexicographic order.
func everyAllotment(lamps int, visit func(l []int, men int)) {
	l := make([]int, lamps)
	var choose func(i, men int)
	choose = func(i, men int) {
		if i == lamps {
			visit(l, men)
			return
		}
		for man := range men + 1 {
			l[i] = man
			choose(i+1, max(men, man+1))
		}
	}
	choose(0, 0)
}

// firstAllotment returns the first allotment in time of the fewest men, if there is one.
func (g guide) firstAllotment(w api.Town) (first []int, least int, is bool) {
	can := make([]bool, 1<<len(w.Lamps))
	for set := range can {
		_, can[set] = g.firstOrder(w, set)
	}
	everyAllotment(len(w.Lamps), func(l []int, men int) {
		sets := make([]int, men)
		for i, man := range l {
			sets[man] |= 1 << i
		}
		if is && men >= least || slices.ContainsFunc(sets, func(set int) bool { return !can[set] }) {
			return
		}
		first, least, is = slices.Clone(l), men, true
	})
	return first, least, is
}

// anyTown returns some town with so many lamps. Mostly there is a way to each of them, and a man who goes there at once comes in time; whoever lights others before is often too late.
func anyTown(d *dice, lamps int) api.Town {
	w := api.Town{Corners: 1 + d.roll(api.MaxCorners), Start: d.roll(30), Each: d.roll(6)}
	if w.Corners > 1 {
		for range d.roll(api.MaxStreets - 9) {
			a := d.roll(w.Corners)
			w.Streets = append(w.Streets, street(a, (a+1+d.roll(w.Corners-1))%w.Corners, 1+d.roll(20)))
		}
	}
	for corner := 1; corner < w.Corners && d.roll(10) > 0; corner++ {
		w.Streets = append(w.Streets, street(corner, d.roll(corner), 1+d.roll(20)))
	}
	g := newGuide(w)
	for range lamps {
		early, corner := d.roll(60), d.roll(w.Corners)
		late := early
		if soon := w.Start + g[0][corner]; soon < far && d.roll(20) > 0 {
			late = max(late, soon)
		}
		w.Lamps = append(w.Lamps, at(corner, early, late+d.roll(1+d.roll(40))))
	}
	return w
}

func TestWalkAgainstAllWays(t *testing.T) {
	d := newDice(2)
	some, none := 0, 0
	for range 1000 {
		w := anyTown(d, 0)
		for from, l := range newGuide(w) {
			for to, n := range l {
				if n < far {
					wantWalk(t, "a way", w, from, to, n, api.OK)
					some++
				} else {
					wantWalk(t, "no way", w, from, to, 0, api.ErrNone)
					none++
				}
			}
		}
	}
	if min(some, none) < 1000 {
		t.Errorf("%d ways, and %d that are none", some, none)
	}
}

func TestFollowAgainstTerms(t *testing.T) {
	d := newDice(3)
	seen, late := map[api.Errno]int{}, 0
	for range 20_000 {
		w := anyTown(d, d.roll(api.MaxLamps+1))
		round := make([]int, d.roll(api.MaxLamps+2))
		for i := range round {
			round[i] = d.roll(len(w.Lamps)+2) - d.roll(2)
			if d.roll(6) > 0 && i < len(w.Lamps) {
				round[i] = (i*3 + len(round)) % len(w.Lamps)
			}
		}
		times, index, e := newGuide(w).follow(w, round)
		if e == api.OK {
			wantFollow(t, "in time", w, round, times...)
		} else {
			wantNotFollowed(t, "not in time", w, round, index, e)
			late += min(1, index)
		}
		seen[e]++
	}
	if min(seen[api.OK], seen[api.ErrRange], seen[api.ErrTwice], seen[api.ErrNone], seen[api.ErrOrder], late) < 500 {
		t.Errorf("the errors are %v; %d of them not at the first lamp", seen, late)
	}
}

func TestOrderAgainstAllOrders(t *testing.T) {
	d := newDice(4)
	some, other, none := 0, 0, 0
	for range 400 {
		w := anyTown(d, d.roll(7))
		g := newGuide(w)
		for set := range 1 << len(w.Lamps) {
			order, is := g.firstOrder(w, set)
			switch {
			case !is:
				wantNoOrder(t, "no order", w, set, api.ErrNone)
				none++
				continue
			case slices.IsSorted(order):
				some++
			default:
				other++
			}
			wantOrder(t, "the first order", w, set, order...)
		}
	}
	if min(some, other, none) < 1000 {
		t.Errorf("%d orders are those of the lamps, %d are others, %d are none", some, other, none)
	}
}

// TestOrderOfAllLamps holds the orders of eight lamps against all of them.
func TestOrderOfAllLamps(t *testing.T) {
	d := newDice(5)
	some, none := 0, 0
	for range 60 {
		w := anyTown(d, api.MaxLamps)
		w.Each = d.roll(2)
		for i := range w.Lamps {
			w.Lamps[i].Late += 40
		}
		if order, is := newGuide(w).firstOrder(w, 0b11111111); is {
			wantOrder(t, "all lamps", w, 0b11111111, order...)
			some++
		} else {
			wantNoOrder(t, "all lamps", w, 0b11111111, api.ErrNone)
			none++
		}
	}
	if min(some, none) < 10 {
		t.Errorf("%d orders, and %d that are none", some, none)
	}
}

// wantFirstAllotment checks Fewest of a town, and returns how many men it takes, or that there are none.
func wantFirstAllotment(t *testing.T, w api.Town) int {
	t.Helper()
	l, men, is := newGuide(w).firstAllotment(w)
	if !is {
		wantNoneEnough(t, "no allotment", w, api.ErrNone)
		return -1
	}
	wantFewest(t, "the first allotment", w, men, l...)
	return men
}

func TestFewestAgainstAllAllotments(t *testing.T) {
	d := newDice(6)
	seen := map[int]int{}
	for range 1200 {
		seen[wantFirstAllotment(t, anyTown(d, d.roll(7)))]++
	}
	for _, men := range []int{-1, 0, 1, 2, 3} {
		if seen[men] < 50 {
			t.Errorf("so many towns take so many men: %v", seen)
		}
	}
	for range 6 {
		wantFirstAllotment(t, anyTown(d, api.MaxLamps))
	}
}
