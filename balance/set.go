package balance

import (
	"iter"

	"gasworks/api"
)

// A set is a set of places, by its number: the bit i stands for the place i.
type set int

// sets ranges over all sets of so many places, from the one with the least number on.
func sets(places int) iter.Seq[set] {
	return func(yield func(set) bool) {
		for s := set(0); s < 1<<places; s++ {
			if !yield(s) {
				return
			}
		}
	}
}

func (s set) has(place int) bool {
	return s>>place&1 == 1
}

// places returns the places of the set, rising.
func (s set) places() []int {
	var l []int
	for place := range api.MaxPlaces {
		if s.has(place) {
			l = append(l, place)
		}
	}
	return l
}

// takes tells whether a flow goes into the set.
func (s set) takes(f api.Flow) bool {
	return s.has(f.To) && !s.has(f.From)
}

// gives tells whether a flow goes out of the set.
func (s set) gives(f api.Flow) bool {
	return s.has(f.From) && !s.has(f.To)
}

// The ways in which a flow crosses the border of a set.
const (
	into = iota
	outOf
)

// crossing returns what all flows into the set, and all flows out of it, can be together.
func (s set) crossing(flows []api.Flow) [2]api.Span {
	var c [2]api.Span
	for way, crosses := range [...]func(api.Flow) bool{into: s.takes, outOf: s.gives} {
		for _, f := range flows {
			if crosses(f) {
				c[way].Lo += f.Gas.Lo
				c[way].Hi += f.Gas.Hi
			}
		}
	}
	return c
}
