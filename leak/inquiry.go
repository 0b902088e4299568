package leak

import (
	"iter"

	"gasworks/api"
)

// An inquiry is a search as it goes on: what its clues say of each main, and what can be found at each hole.
type inquiry struct {
	mains, wrong int
	found        tally
	holes        [][2]finding
}

func newInquiry(s api.Search) inquiry {
	q := inquiry{mains: s.Mains, wrong: s.Wrong}
	for _, c := range s.Clues {
		q.found = q.found.with(findingOf(c))
	}
	for _, h := range s.Holes {
		q.holes = append(q.holes, findings(h))
	}
	return q
}

// bits ranges over the mains that are suspect after a tally: the bit of each, rising.
func (q inquiry) bits(t tally) iter.Seq[int] {
	return func(yield func(int) bool) {
		for main := range q.mains {
			if t[main] <= q.wrong && !yield(1<<main) {
				return
			}
		}
	}
}

// suspects returns the set of the mains that are suspect after a tally.
func (q inquiry) suspects(t tally) int {
	set := 0
	for bit := range q.bits(t) {
		set |= bit
	}
	return set
}

// count returns how many mains are suspect after a tally.
func (q inquiry) count(t tally) int {
	n := 0
	for range q.bits(t) {
		n++
	}
	return n
}
