package pipe

import (
	"iter"

	"gasworks/api"
)

// A set of mains tells of each main whether it is in it.
type set [api.MaxMains]bool

// setOf returns the set of a number: the bit k of it stands for the main k.
func setOf(bits int) set {
	var s set
	for k := range s {
		s[k] = bits>>k&1 == 1
	}
	return s
}

// numbers returns the mains of the set, rising.
func (s set) numbers() []int {
	var l []int
	for k, is := range s {
		if is {
			l = append(l, k)
		}
	}
	return l
}

func (s set) cost(mains []api.Main) int {
	sum := 0
	for k, m := range mains {
		if s[k] {
			sum += m.Cost
		}
	}
	return sum
}

// and returns the mains that are in both sets.
func (s set) and(t set) set {
	for k := range s {
		s[k] = s[k] && t[k]
	}
	return s
}

// laid returns the network with a second main beside each of a set.
func laid(n api.Network, s set) api.Network {
	n.Mains = copied(n.Mains)
	for k := range n.Mains {
		if s[k] {
			n.Mains[k].Drop = (n.Mains[k].Drop + 1) / 2
		}
	}
	return n
}

// fault returns the first junction that is not right, whether its pressure can be too low, and whether there is one.
func fault(n api.Network) (junction int, low, is bool) {
	for i, j := range n.Junctions {
		if fed(n.Mains, i) == api.Never {
			continue
		}
		s := pressures(n, i)
		if s.Lo < j.Least || s.Hi > j.Most {
			return i, s.Lo < j.Least, true
		}
	}
	return 0, false, false
}

// enough ranges over the sets of mains that are enough, from the one with the least number on. Each set has to be tried: a second main can also make a pressure too great.
func enough(n api.Network) iter.Seq[set] {
	return func(yield func(set) bool) {
		for bits := range 1 << len(n.Mains) {
			s := setOf(bits)
			if _, _, is := fault(laid(n, s)); !is && !yield(s) {
				return
			}
		}
	}
}

// cheapest returns the first set that is enough of the least cost, and whether there is one.
func cheapest(n api.Network) (best set, is bool) {
	for s := range enough(n) {
		if !is || s.cost(n.Mains) < best.cost(n.Mains) {
			best, is = s, true
		}
	}
	return best, is
}

// common returns the mains that are in all sets that are enough, and whether there is such a set.
func common(n api.Network) (mains set, is bool) {
	for s := range enough(n) {
		if !is {
			mains, is = s, true
		}
		mains = mains.and(s)
		if mains == (set{}) {
			break
		}
	}
	return mains, is
}
