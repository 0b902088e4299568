package lamp_test

import (
	"reflect"
	"slices"
	"testing"

	"gasworks/api"
	"gasworks/lamp"
)

// crowded returns some town with as many lamps as there can be, or a few less.
func crowded(d *dice) api.Town {
	return anyTown(d, api.MaxLamps-d.roll(3))
}

// setsOf returns the lamps of each man.
func setsOf(allotment []int, men int) []int {
	sets := make([]int, men)
	for i, man := range allotment {
		sets[man] |= 1 << i
	}
	return sets
}

// TestEachIsLitInTime checks that the men of Fewest light each lamp once, and in time.
func TestEachIsLitInTime(t *testing.T) {
	d := newDice(8)
	lit := 0
	for range 2000 {
		w := crowded(d)
		l, men, e := lamp.Fewest(w)
		if e != api.OK {
			continue
		}
		by := make([]int, len(w.Lamps))
		for _, set := range setsOf(l, men) {
			order, e := lamp.Order(w, set)
			times, _, e2 := lamp.Follow(w, order)
			if e != api.OK || e2 != api.OK || len(order) == 0 {
				t.Fatalf("of %v the set %b has the order %v, errors %d and %d", w, set, order, e, e2)
			}
			for i, n := range order {
				by[n]++
				if times[i] < w.Lamps[n].Early || times[i] > w.Lamps[n].Late {
					t.Errorf("of %v the lamp %d is lit at %d", w, n, times[i])
				}
			}
		}
		if slices.ContainsFunc(by, func(n int) bool { return n != 1 }) {
			t.Errorf("the lamps of %v are lit so often: %v", w, by)
		}
		lit++
	}
	if lit < 500 {
		t.Errorf("only %d towns are lit", lit)
	}
}

// TestFewerLamps checks that whoever can light some lamps can light fewer of them.
func TestFewerLamps(t *testing.T) {
	d := newDice(9)
	some := 0
	for range 300 {
		w := crowded(d)
		can := make([]bool, 1<<len(w.Lamps))
		for set := range can {
			_, e := lamp.Order(w, set)
			can[set] = e == api.OK
			for _, n := range numbersOf(set) {
				if can[set] && !can[set&^(1<<n)] {
					t.Errorf("of %v one man can light %b, but not without the lamp %d", w, set, n)
				}
			}
			if can[set] {
				some++
			}
		}
	}
	if some < 1000 {
		t.Errorf("one man can light %d sets", some)
	}
}

// menOf returns how many men a town takes, or one more than there are lamps if no men are enough.
func menOf(w api.Town) int {
	_, men, e := lamp.Fewest(w)
	if e != api.OK {
		return api.MaxLamps + 1
	}
	return men
}

// easier returns changes after which no more men are needed.
func easier(d *dice) map[string]func(w *api.Town) {
	return map[string]func(w *api.Town){
		"a lesser Early": func(w *api.Town) {
			l := &w.Lamps[d.roll(len(w.Lamps))]
			l.Early = d.roll(l.Early + 1)
		},
		"a greater Late": func(w *api.Town) { w.Lamps[d.roll(len(w.Lamps))].Late += d.roll(100) },
		"a shorter street": func(w *api.Town) {
			if len(w.Streets) > 0 {
				s := &w.Streets[d.roll(len(w.Streets))]
				s.Minutes = 1 + d.roll(s.Minutes)
			}
		},
		"another street": func(w *api.Town) {
			if w.Corners > 1 && len(w.Streets) < api.MaxStreets {
				a := d.roll(w.Corners)
				w.Streets = append(w.Streets, street(a, (a+1+d.roll(w.Corners-1))%w.Corners, 1+d.roll(10)))
			}
		},
		"an earlier Start": func(w *api.Town) { w.Start = d.roll(w.Start + 1) },
		"a lesser Each":    func(w *api.Town) { w.Each = d.roll(w.Each + 1) },
		"a lamp less":      func(w *api.Town) { w.Lamps = slices.Delete(w.Lamps, 0, 1) },
		"another lamp less": func(w *api.Town) {
			i := d.roll(len(w.Lamps))
			w.Lamps = slices.Delete(w.Lamps, i, i+1)
		},
	}
}

// TestNoMoreMen checks that what makes it easier for the men never takes more of them, and sometimes fewer.
func TestNoMoreMen(t *testing.T) {
	d := newDice(10)
	fewer := map[string]int{}
	for range 1000 {
		w := crowded(d)
		men := menOf(w)
		for name, change := range easier(d) {
			after := copyOf(w)
			change(&after)
			n := menOf(after)
			if n > men {
				t.Errorf("%s: %v takes %d men, %v takes %d", name, w, men, after, n)
			}
			if n < men {
				fewer[name]++
			}
		}
	}
	for name := range easier(d) {
		if fewer[name] < 10 {
			t.Errorf("%s: only %d towns take fewer men then", name, fewer[name])
		}
	}
}

// TestAManEach checks that lamps no two of which one man could light need a man each.
func TestAManEach(t *testing.T) {
	d := newDice(11)
	seen := map[int]int{}
	for range 1000 {
		w := crowded(d)
		men := menOf(w)
		if men > api.MaxLamps {
			continue
		}
		most := mostApart(w)
		if men < most {
			t.Errorf("of %v a man each is needed for %d lamps; Fewest says %d", w, most, men)
		}
		seen[most]++
	}
	if min(seen[1], seen[2], seen[3]) < 50 {
		t.Errorf("so many lamps need a man each: %v", seen)
	}
}

// mostApart returns the greatest number of lamps no two of which one man could light.
func mostApart(w api.Town) int {
	together := make([]int, len(w.Lamps)) // of each lamp the lamps before it that one man could light with it
	for i := range w.Lamps {
		for j := range i {
			if _, e := lamp.Order(w, 1<<i|1<<j); e == api.OK {
				together[i] |= 1 << j
			}
		}
	}
	most := 0
	for set := range 1 << len(w.Lamps) {
		l := numbersOf(set)
		if !slices.ContainsFunc(l, func(i int) bool { return together[i]&set != 0 }) {
			most = max(most, len(l))
		}
	}
	return most
}

// TestGreaterLeast checks that lamps burn no less with a greater Least, and that their spans rise and do not meet.
func TestGreaterLeast(t *testing.T) {
	d := newDice(12)
	more := 0
	for range 3000 {
		n := anyNight(d)
		before := minutes(t, n)
		n.Least += d.roll(api.MaxMinute - n.Least + 1)
		after := minutes(t, n)
		if after < before {
			t.Errorf("lamps burn for %d minutes, and for %d in %v", before, after, n)
		}
		if after > before {
			more++
		}
	}
	if more < 200 {
		t.Errorf("lamps burn more in %d nights", more)
	}
}

// minutes returns for how many minutes lamps burn.
func minutes(t *testing.T, n api.Night) int {
	t.Helper()
	l, e := lamp.Burns(n)
	if e != api.OK {
		t.Fatalf("Burns of %v has the error %d", n, e)
	}
	sum, last := 0, -1
	for _, s := range l {
		if s.Lo <= last || s.Hi <= s.Lo {
			t.Errorf("Burns of %v = %v", n, l)
		}
		sum, last = sum+s.Hi-s.Lo, s.Hi
	}
	return sum
}

// TestAnyOrderOfStreets checks that the order of streets, and from which end one is told, make no difference.
func TestAnyOrderOfStreets(t *testing.T) {
	d := newDice(13)
	for range 300 {
		w := crowded(d)
		other := copyOf(w)
		slices.Reverse(other.Streets)
		for i, s := range other.Streets {
			other.Streets[i] = street(s.B, s.A, s.Minutes)
		}
		round, set := []int{d.roll(6), d.roll(6)}, d.roll(1<<6)
		if a, b := viewOf(w, round, set), viewOf(other, round, set); !reflect.DeepEqual(a, b) {
			t.Errorf("of %v it is said %v, of %v %v", w, a, other, b)
		}
	}
}

// copyOf returns a town that shares no memory with another one.
func copyOf(w api.Town) api.Town {
	w.Streets, w.Lamps = slices.Clone(w.Streets), slices.Clone(w.Lamps)
	return w
}

// A view is all that is said of a town, a round and a set.
type view struct {
	lists   [3][]int
	ways    []int
	numbers [2]int
	errors  [3]api.Errno
}

func viewOf(w api.Town, round []int, set int) view {
	var v view
	v.lists[0], v.numbers[0], v.errors[0] = lamp.Follow(w, round)
	v.lists[1], v.errors[1] = lamp.Order(w, set)
	v.lists[2], v.numbers[1], v.errors[2] = lamp.Fewest(w)
	for from := range w.Corners {
		for to := range w.Corners {
			n, e := lamp.Walk(w, from, to)
			v.ways = append(v.ways, n, int(e))
		}
	}
	return v
}

// spoil writes over all that lies in the lists of a view.
func (v view) spoil() {
	for _, l := range v.lists {
		for i := range l[:cap(l)] {
			l[:cap(l)][i] = -1
		}
	}
}

// hidden returns a list with elements that lie behind it.
func hidden[T any](l []T, behind ...T) (all, list []T) {
	all = append(slices.Clone(l), behind...)
	return all, all[:len(l)]
}

// TestArgumentsAreOnlyRead checks that no argument is changed, nor what lies behind its lists, and that results are new memory.
func TestArgumentsAreOnlyRead(t *testing.T) {
	d := newDice(14)
	for range 200 {
		w := crowded(d)
		allStreets, streets := hidden(w.Streets, street(-7, -8, -9), street(-1, -2, -3))
		allLamps, lamps := hidden(w.Lamps, at(-7, -8, -9), at(-1, -2, -3))
		allRound, round := hidden([]int{d.roll(6), d.roll(6), d.roll(6)}, -7, -8)
		w.Streets, w.Lamps = streets, lamps
		wasStreets, wasLamps, wasRound := slices.Clone(allStreets), slices.Clone(allLamps), slices.Clone(allRound)
		set := d.roll(1 << 6)
		first := viewOf(w, round, set)
		second := viewOf(w, round, set)
		if !reflect.DeepEqual(first, second) {
			t.Errorf("of %v, %v and %b first %v is said, then %v", w, round, set, first, second)
		}
		first.spoil()
		if third := viewOf(w, round, set); !reflect.DeepEqual(second, third) {
			t.Errorf("of %v, %v and %b first %v is said, then %v", w, round, set, second, third)
		}
		if !slices.Equal(allStreets, wasStreets) || !slices.Equal(allLamps, wasLamps) || !slices.Equal(allRound, wasRound) {
			t.Errorf("%v, %v and %v have become %v, %v and %v", wasStreets, wasLamps, wasRound, allStreets, allLamps, allRound)
		}
	}
	l, _ := lamp.Burns(night(1100, 1400))
	for i := range l {
		l[i] = span(-1, -2)
	}
	wantBurns(t, "after its result was written over", night(1100, 1400), span(1000, 1100), span(1400, 1800))
}
