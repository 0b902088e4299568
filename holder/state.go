package holder

import (
	"iter"

	"gasworks/api"
)

// A state is an hour, the retort hours before it, and the retorts that were lit in the hour before it.
type state struct{ hour, total, lit int }

func first(w api.Watch) state {
	return state{lit: w.Lit}
}

// before tells the order of the states, which is also that of the rows.
func (s state) before(t state) bool {
	return rises([2]int{s.hour, t.hour}, [2]int{s.total, t.total}, [2]int{s.lit, t.lit})
}

// rises tells whether the second number is the greater one in the first pair whose numbers differ.
func rises(pairs ...[2]int) bool {
	for _, p := range pairs {
		if p[0] != p[1] {
			return p[0] < p[1]
		}
	}
	return false
}

// steps ranges over the states to which there is a step from a state, with what it costs, fewer retorts first.
func (k keeper) steps(s state) iter.Seq2[state, int] {
	return func(yield func(state, int) bool) {
		if s.hour == len(k.Draws) {
			return
		}
		for lit := range k.Retorts + 1 {
			next := state{hour: s.hour + 1, total: s.total + lit, lit: lit}
			if _, e := k.after(s.hour, next.total); e != api.OK {
				continue
			}
			if !yield(next, k.price(s.lit, lit)) {
				return
			}
		}
	}
}
