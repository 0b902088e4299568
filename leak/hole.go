package leak

import (
	"cmp"
	"math/bits"

	"gasworks/api"
)

// next returns the hole that halves the suspects best, and how many it leaves at most. There has to be a hole.
func (q inquiry) next() (hole, left int) {
	most := make([]int, len(q.holes))
	for i, h := range q.holes {
		for _, f := range h {
			most[i] = max(most[i], q.count(q.found.with(f)))
		}
	}
	return least(most...)
}

// least returns the first of the least values, and its index. There has to be a value.
func least[T cmp.Ordered](values ...T) (index int, value T) {
	for i, v := range values {
		if i == 0 || v < value {
			index, value = i, v
		}
	}
	return index, value
}

// tooMany is in the place of a number of holes that is greater than MaxBars.
const tooMany = api.MaxBars + 1

// A plan is the hole to be barred first, and the least number of holes that is enough.
type plan struct{ hole, holes int }

// fewest returns the hole to be barred first, and the least number of holes that is enough, or tooMany.
func (q inquiry) fewest() (hole, holes int) {
	// By the holes that were barred, and by the tally: in which order they were barred makes no difference.
	plans := map[int]map[tally]plan{}
	var try func(barred int, t tally) plan
	try = func(barred int, t tally) plan {
		if q.count(t) <= 1 {
			return plan{}
		}
		if p, is := plans[barred][t]; is {
			return p
		}
		best := plan{holes: tooMany}
		if bits.OnesCount(uint(barred)) == api.MaxBars {
			return best
		}
	candidates:
		for i, h := range q.holes {
			if isIn(i, barred) {
				continue
			}
			most := 0
			for _, f := range h {
				most = max(most, 1+try(barred|1<<i, t.with(f)).holes)
				if most >= best.holes {
					continue candidates
				}
			}
			best = plan{hole: i, holes: most}
		}
		if plans[barred] == nil {
			plans[barred] = map[tally]plan{}
		}
		plans[barred][t] = best
		return best
	}
	first := try(0, q.found)
	return first.hole, first.holes
}
