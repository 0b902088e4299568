package heat_test

import (
	"slices"
	"testing"

	"gasworks/api"
)

// A dice rolls the same numbers in each run of the tests.
type dice struct{ at uint64 }

func newDice(seed uint64) *dice { return &dice{at: seed} }

func (d *dice) roll(n int) int {
	d.at = d.at*6364136223846793005 + 1442695040888963407
	return int(d.at >> 33 % uint64(n))
}

// span returns a span of at most so many numbers more than one, within 0 to most.
func (d *dice) span(width, most int) api.Span {
	lo := d.roll(most + 1)
	return span(lo, min(most, lo+d.roll(width+1)))
}

// shuffled returns the elements in any order, in a list of their own.
func shuffled[T any](d *dice, l []T) []T {
	other := slices.Clone(l)
	for i := range other {
		j := d.roll(i + 1)
		other[i], other[j] = other[j], other[i]
	}
	return other
}

// everyChoice calls a function for each list of numbers of which the number i is within the span i, in lexicographic order.
func everyChoice(spans []api.Span, visit func(l []int)) {
	l := make([]int, len(spans))
	var choose func(i int)
	choose = func(i int) {
		if i == len(l) {
			visit(l)
			return
		}
		for n := spans[i].Lo; n <= spans[i].Hi; n++ {
			l[i] = n
			choose(i + 1)
		}
	}
	choose(0)
}

// allParts and allHeats return how many parts of each supply there can be, and which heats of one part.
func allParts(l []api.Supply) []api.Span {
	var spans []api.Span
	for _, s := range l {
		spans = append(spans, span(0, s.Most))
	}
	return spans
}

func allHeats(l []api.Supply) []api.Span {
	var spans []api.Span
	for _, s := range l {
		spans = append(spans, s.Heat)
	}
	return spans
}

// volumeOf and costOf say what a mixture is.
func volumeOf(l []api.Supply, parts []int) int {
	volume := 0
	for i, n := range parts {
		if l[i].Volume == 1 {
			volume += n
		}
	}
	return volume
}

func costOf(l []api.Supply, parts []int) int {
	cost := 0
	for i, n := range parts {
		cost += n * l[i].Pay
	}
	return cost
}

// heatOf returns the heat of a mixture, if these are the heats of one part of each supply.
func heatOf(heats, parts []int) int {
	sum := 0
	for i, n := range parts {
		sum += n * heats[i]
	}
	return sum
}

// isRight tells whether a mixture is right whatever the heats are.
func isRight(l []api.Supply, parts []int, volume, least, most int) bool {
	if volumeOf(l, parts) != volume {
		return false
	}
	right := true
	everyChoice(allHeats(l), func(heats []int) {
		sum := heatOf(heats, parts)
		right = right && least*volume <= sum && sum <= most*volume
	})
	return right
}

// isRightAtEnds tells whether a mixture is right if all heats are the least ones, and if all are the greatest ones.
func isRightAtEnds(l []api.Supply, parts []int, volume, least, most int) bool {
	cold, hot := 0, 0
	for i, n := range parts {
		cold, hot = cold+n*l[i].Heat.Lo, hot+n*l[i].Heat.Hi
	}
	return volumeOf(l, parts) == volume && cold >= least*volume && hot <= most*volume
}

// cheapest returns the right mixture that costs least, and whether there is one.
func cheapest(l []api.Supply, volume, least, most int, isRight func(l []api.Supply, parts []int, volume, least, most int) bool) (best []int, found bool) {
	everyChoice(allParts(l), func(parts []int) {
		if found && costOf(l, parts) >= costOf(l, best) || !isRight(l, parts, volume, least, most) {
			return
		}
		best, found = slices.Clone(parts), true
	})
	return best, found
}

// anySupplies returns a few supplies with few parts and narrow heats.
func anySupplies(d *dice) []api.Supply {
	var l []api.Supply
	for range d.roll(api.MaxSupplies + 1) {
		l = append(l, api.Supply{Heat: d.span(2, 8), Volume: min(1, d.roll(4)), Most: d.roll(5), Pay: d.roll(5)})
	}
	return l
}

// TestAllMixtures holds Mix against a listing of all mixtures and of all heats of their parts.
func TestAllMixtures(t *testing.T) {
	d := newDice(2)
	right, wrong, oiled := 0, 0, 0
	for range 3000 {
		l := anySupplies(d)
		volume := 1 + d.roll(5)
		least := d.roll(10)
		heats := span(least, least+d.roll(9))
		parts, found := cheapest(l, volume, heats.Lo, heats.Hi, isRight)
		if !found {
			wrong++
			wantNoMix(t, "all mixtures", l, volume, heats.Lo, heats.Hi, api.ErrNone)
			continue
		}
		right++
		if heatOf([]int{1, 1, 1, 1}, parts) > volume {
			oiled++
		}
		wantMix(t, "all mixtures", l, volume, heats.Lo, heats.Hi, costOf(l, parts), parts...)
	}
	if min(right, wrong) < 500 || oiled < 100 {
		t.Errorf("of %d supplies there was a right mixture, of %d with oil; of %d there was none", right, oiled, wrong)
	}
}

// TestAllLargeMixtures holds Mix against a listing of all mixtures of supplies of any size, by the ends of their heats.
func TestAllLargeMixtures(t *testing.T) {
	d := newDice(3)
	right, wrong := 0, 0
	for range 60 {
		l := largeSupplies(d, 4)
		volume := 1 + d.roll(40)
		least := d.roll(6000)
		most := least + d.roll(3000)
		best, found := cheapest(l, volume, least, most, isRightAtEnds)
		if found {
			right++
			wantMix(t, "all large mixtures", l, volume, least, most, costOf(l, best), best...)
		} else {
			wrong++
			wantNoMix(t, "all large mixtures", l, volume, least, most, api.ErrNone)
		}
	}
	if min(right, wrong) < 10 {
		t.Errorf("of %d supplies there was a right mixture, of %d none", right, wrong)
	}
}

// largeSupplies returns so many supplies of any size.
func largeSupplies(d *dice, n int) []api.Supply {
	var l []api.Supply
	for range n {
		l = append(l, api.Supply{Heat: d.span(800, api.MaxHeat), Volume: min(1, d.roll(4)), Most: d.roll(21), Pay: d.roll(1 + d.roll(1_000_001))})
	}
	return l
}

// A listing is what all truths say of a window.
type listing struct {
	tests, kept, not int
	due              api.Span
}

// dueFor returns what is due for these heats.
func dueFor(d api.Decree, heats []int) int {
	lacks := 0
	for _, h := range heats {
		lacks += d.Declared - d.Slack - h
	}
	if lacks <= 0 {
		return 0
	}
	due := 0
	for due*len(heats) < lacks*d.Pay {
		due++
	}
	return due
}

// list lists all truths of the window of an hour.
func list(d api.Decree, l []api.Test, hour int) listing {
	var spans []api.Span
	for _, t := range l {
		for h := hour; h > hour-d.Window; h-- {
			if t.Hour == h {
				spans = append(spans, t.Heat)
			}
		}
	}
	all := listing{tests: len(spans)}
	everyChoice(spans, func(heats []int) {
		due := dueFor(d, heats)
		if all.kept+all.not == 0 {
			all.due = span(due, due)
		}
		all.due = span(min(all.due.Lo, due), max(all.due.Hi, due))
		if heatOf(heats, slices.Repeat([]int{1}, len(heats))) >= (d.Declared-d.Slack)*len(heats) {
			all.kept++
		} else {
			all.not++
		}
	})
	return all
}

// certainty returns what Kept returns for a window with tests.
func (l listing) certainty() int {
	switch {
	case l.not == 0:
		return api.Always
	case l.kept == 0:
		return api.Never
	}
	return api.Maybe
}

// anyTests returns up to so many tests of the hours from 0 to 11, with narrow heats.
func anyTests(d *dice, most int) []api.Test {
	var l []api.Test
	for range d.roll(most + 1) {
		l = append(l, api.Test{Hour: d.roll(12), Station: d.roll(4), Heat: d.span(3, 9)})
	}
	return l
}

func anyDecree(d *dice) api.Decree {
	declared := d.roll(10)
	return api.Decree{Window: 1 + d.roll(7), Declared: declared, Slack: d.roll(d.roll(declared+1) + 1), Pay: d.roll(7)}
}

// TestAllTruths holds Kept, Due and Worst against a listing of all truths, hour by hour.
func TestAllTruths(t *testing.T) {
	d := newDice(4)
	seen := [3]int{}
	worst := [3]int{}
	for range 1500 {
		decree, l := anyDecree(d), anyTests(d, 6)
		hour, least := 0, api.Always+1
		for h := range 20 {
			all := list(decree, l, h)
			if all.tests == 0 {
				wantNotKept(t, "all truths", decree, l, h, api.ErrNone)
				continue
			}
			k := all.certainty()
			seen[k]++
			wantKept(t, "all truths", decree, l, h, k, all.due)
			if k < least && slices.ContainsFunc(l, func(t api.Test) bool { return t.Hour == h }) {
				hour, least = h, k
			}
		}
		if len(l) == 0 {
			wantWorst(t, "all truths", decree, l, 0, 0, api.ErrNone)
			continue
		}
		worst[least]++
		wantWorst(t, "all truths", decree, l, hour, least, api.OK)
	}
	if slices.Min(seen[:]) < 1000 || slices.Min(worst[:]) < 50 {
		t.Errorf("windows were kept never, maybe and always in %v hours; the worst ones in %v", seen, worst)
	}
}

// isTested tells whether a station has a test in some hours.
func isTested(l []api.Test, station int, hours api.Span) bool {
	for _, t := range l {
		if t.Station == station && contains(hours, span(t.Hour, t.Hour)) {
			return true
		}
	}
	return false
}

// firstMissed goes through the hours and the stations.
func firstMissed(l []api.Test, stations, period int, hours api.Span) (hour, station int, e api.Errno) {
	for h := hours.Lo + period - 1; h <= hours.Hi; h++ {
		for s := range stations {
			if !isTested(l, s, span(h-period+1, h)) {
				return h, s, api.OK
			}
		}
	}
	return 0, 0, api.ErrNone
}

// contains tells whether a span contains another one.
func contains(s, other api.Span) bool {
	return s.Lo <= other.Lo && other.Hi <= s.Hi
}

// TestAllHoursAndStations holds Missed against a search hour by hour and station by station.
func TestAllHoursAndStations(t *testing.T) {
	d := newDice(5)
	missed, later, none := 0, 0, 0
	for range 10_000 {
		l := manyTests(d)
		stations, period := 1+d.roll(3), 1+d.roll(16)
		hours := d.span(40, 50)
		hour, station, e := firstMissed(l, stations, period, hours)
		wantMissed(t, "all hours", l, stations, period, hours, hour, station, e)
		switch {
		case e != api.OK:
			none++
		case hour > hours.Lo+period-1:
			later++
		default:
			missed++
		}
	}
	if min(missed, later, none) < 500 {
		t.Errorf("%d times nothing was missed, %d times the first period, %d times a later one", none, missed, later)
	}
}

// manyTests returns many tests of the hours from 0 to 39 in any order, of few stations.
func manyTests(d *dice) []api.Test {
	var l []api.Test
	stations := 1 + d.roll(4)
	for range d.roll(2)*d.roll(17) + d.roll(17) {
		l = append(l, api.Test{Hour: d.roll(40), Station: d.roll(stations), Heat: d.span(3, 9)})
	}
	return l
}
