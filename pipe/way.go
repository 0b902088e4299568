package pipe

import (
	"iter"

	"gasworks/api"
)

// way ranges over the mains by which a junction is fed, the one that leads to it first.
func way(mains []api.Main, junction int) iter.Seq[int] {
	return func(yield func(int) bool) {
		for j := junction; j > 0; j = mains[j-1].From {
			if !yield(j - 1) {
				return
			}
		}
	}
}

// fed returns whether a junction is fed in each truth, in some, or in none.
func fed(mains []api.Main, junction int) int {
	state := api.Always
	for k := range way(mains, junction) {
		switch mains[k].Valve {
		case api.Shut:
			return api.Never
		case api.Doubtful:
			state = api.Maybe
		}
	}
	return state
}

// opened returns the mains with open valves on the way to a junction, in a list of their own.
func opened(mains []api.Main, junction int) []api.Main {
	l := copied(mains)
	for k := range way(mains, junction) {
		l[k].Valve = api.Open
	}
	return l
}

func copied(mains []api.Main) []api.Main {
	l := make([]api.Main, len(mains))
	copy(l, mains)
	return l
}
