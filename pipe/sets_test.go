package pipe_test

import (
	"slices"
	"testing"

	"gasworks/api"
	"gasworks/pipe"
)

// bounded returns a network with some bounds between the pressures that there are without any second main and those with all of them.
func bounded(d *dice, mains, needs int) api.Network {
	n := anyNetwork(d, mains, needs)
	for i := range n.Mains {
		n.Mains[i].Drop += d.roll(9)
	}
	lowest, highest := viewed(n, true), viewed(second(n, 1<<mains-1), true)
	rare := 2 + d.roll(4)
	for i, j := range n.Junctions {
		low, high := lowest[i].press, highest[i].press
		if d.roll(rare) == 0 {
			j.Least = low.Lo + d.roll(high.Lo-low.Lo+1) + d.roll(12)/11
		}
		if d.roll(rare+2) == 0 {
			j.Most = max(j.Least, high.Hi-d.roll(high.Hi-low.Hi+1)-d.roll(12)/11)
		}
		n.Junctions[i] = j
	}
	return n
}

// second returns a network with a second main beside each of a set.
func second(n api.Network, number int) api.Network {
	n = copied(n)
	for k := range n.Mains {
		if number>>k%2 == 1 {
			n.Mains[k].Drop -= n.Mains[k].Drop / 2
		}
	}
	return n
}

// firstFault returns the first junction that is not right in some truth.
func firstFault(n api.Network, ends bool) (number int, low, is bool) {
	for i, v := range viewed(n, ends) {
		j := n.Junctions[i]
		if v.fed > 0 && (v.press.Lo < j.Least || v.press.Hi > j.Most) {
			return i, v.press.Lo < j.Least, true
		}
	}
	return 0, false, false
}

func members(number int) []int {
	var l []int
	for k := range api.MaxMains {
		if number>>k%2 == 1 {
			l = append(l, k)
		}
	}
	return l
}

func price(n api.Network, l []int) int {
	sum := 0
	for _, k := range l {
		sum += n.Mains[k].Cost
	}
	return sum
}

// TestAllSets holds Fault, Lay and Must against all sets of mains, each with all truths of small networks.
func TestAllSets(t *testing.T) {
	d := newDice(11)
	without, low, high, laid, must, other := 0, 0, 0, 0, 0, 0
	for i := range 4000 {
		n := bounded(d, i%5, 2)
		number, isLow, is := firstFault(n, false)
		switch {
		case !is:
			wantNoFault(t, "all truths", n, api.ErrNone)
		case isLow:
			low++
			wantFault(t, "all truths", n, number, isLow)
		default:
			high++
			wantFault(t, "all truths", n, number, isLow)
		}
		best, common, enough := bestSet(n)
		if enough == 0 {
			without++
			wantNotLaid(t, "all sets", n, api.ErrNone)
			continue
		}
		wantLay(t, "all sets", n, price(n, members(best)), members(best)...)
		wantMust(t, "all sets", n, members(common)...)
		if best != 0 {
			laid++
		}
		if common != 0 {
			must++
		}
		if best != common {
			other++
		}
	}
	if min(without, low, high, laid, must, other) < 50 {
		t.Errorf("%d networks could not be laid; %d were too low, %d too high; %d had to be laid, %d with mains that must be, %d with others", without, low, high, laid, must, other)
	}
}

// bestSet returns the numbers of the first set that is enough of the least cost, and of the mains that are in all sets that are, and how many these are.
func bestSet(n api.Network) (best, common, enough int) {
	for number := range 1 << len(n.Mains) {
		if _, _, is := firstFault(second(n, number), false); is {
			continue
		}
		enough++
		if enough == 1 {
			best, common = number, number
		}
		common &= number
		if price(n, members(number)) < price(n, members(best)) {
			best = number
		}
	}
	return best, common, enough
}

// TestSetsOfGreatNetworks checks with Fault that what Lay returns is enough, that nothing cheaper is, and that without a main that Must returns nothing is.
func TestSetsOfGreatNetworks(t *testing.T) {
	d := newDice(12)
	laid, must := 0, 0
	for range 60 {
		n := bounded(d, 6+d.roll(3), 2)
		best, cost, e := pipe.Lay(n)
		common, e2 := pipe.Must(n)
		if e != e2 {
			t.Fatalf("Lay of %v has the error %d, and Must %d", n, e, e2)
		}
		var in int
		for number := range 1 << len(n.Mains) {
			l := members(number)
			if _, _, f := pipe.Fault(second(n, number)); f == api.OK {
				if slices.Equal(l, best) && e == api.OK {
					t.Errorf("%v is not enough for %v", best, n)
				}
				continue
			}
			in++
			if e != api.OK || price(n, l) < cost || price(n, l) == cost && !slices.Equal(l, best) && slices.Compare(reversed(l), reversed(best)) < 0 {
				t.Errorf("%v is enough for %v; Lay = %v, %d, error %d", l, n, best, cost, e)
			}
			for _, k := range common {
				if !slices.Contains(l, k) {
					t.Errorf("%v is enough for %v, without the main %d of %v", l, n, k, common)
				}
			}
		}
		if (in > 0) != (e == api.OK) || price(n, best) != cost {
			t.Errorf("Lay of %v = %v, %d, error %d; %d sets are enough", n, best, cost, e, in)
		}
		laid, must = laid+len(best), must+len(common)
	}
	if laid < 30 || must < 20 {
		t.Errorf("only %d mains were laid, and %d had to be", laid, must)
	}
}

// reversed returns the mains falling: in this order a set of a lesser number comes first.
func reversed(l []int) []int {
	l = slices.Clone(l)
	slices.Reverse(l)
	return l
}

// TestLaidIsRight checks that with second mains beside those that are laid all junctions are right, and nothing more has to be laid.
func TestLaidIsRight(t *testing.T) {
	d := newDice(13)
	for range 500 {
		n := bounded(d, d.roll(4), 3)
		best, _, e := pipe.Lay(n)
		if e != api.OK {
			continue
		}
		number := 0
		for _, k := range best {
			number += 1 << k
		}
		wantNoFault(t, "laid", second(n, number), api.ErrNone)
		wantLay(t, "laid", second(n, number), 0)
		wantMust(t, "laid", second(n, number))
	}
}
