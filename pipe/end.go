package pipe

import (
	"iter"

	"gasworks/api"
)

// An end is one of the two ends of the pressures at a junction: which end of Source makes it, which end of each Need, and through which valves gas goes then.
type end struct {
	source, need func(s api.Span) int
	passes       func(valve int) bool
}

func lo(s api.Span) int { return s.Lo }

func hi(s api.Span) int { return s.Hi }

// least is the end for which the most is drawn, also behind each valve that can be open: what flows elsewhere only takes pressure away.
func least() end {
	return end{source: lo, need: hi, passes: func(valve int) bool { return valve != api.Shut }}
}

// greatest is the end for which the least is drawn, and nothing behind a valve that can be shut.
func greatest() end {
	return end{source: hi, need: lo, passes: func(valve int) bool { return valve == api.Open }}
}

// pressures returns the span of the pressures at a junction, of all truths in which it is fed. There has to be one.
func pressures(n api.Network, junction int) api.Span {
	// In all these truths the valves on the way are open; those of the other mains are as doubtful as they were.
	n.Mains = opened(n.Mains, junction)
	return api.Span{Lo: least().pressure(n, junction), Hi: greatest().pressure(n, junction)}
}

// pressure returns this end of the pressures at a junction that is fed.
func (e end) pressure(n api.Network, junction int) int {
	var at func(junction int) int
	at = func(junction int) int {
		before := e.source(n.Source)
		if junction > 0 {
			m := n.Mains[junction-1]
			before = at(m.From) - m.Drop*e.flow(n, junction)
		}
		return governed(n.Junctions[junction], before)
	}
	return at(junction)
}

// flow returns what flows to a junction that is fed.
func (e end) flow(n api.Network, junction int) int {
	sum := 0
	for j := range e.led(n.Mains, junction) {
		sum += e.need(n.Junctions[j].Need)
	}
	return sum
}

// led ranges over a junction and those that are fed by way of it.
func (e end) led(mains []api.Main, junction int) iter.Seq[int] {
	return func(yield func(int) bool) {
		if !yield(junction) {
			return
		}
		for k, m := range mains {
			if m.From != junction || !e.passes(m.Valve) {
				continue
			}
			for j := range e.led(mains, k+1) {
				if !yield(j) {
					return
				}
			}
		}
	}
}

// governed returns the pressure behind the governor of a junction, if it has one.
func governed(j api.Junction, before int) int {
	if j.Governor == api.NoGovernor {
		return before
	}
	return min(before, j.Governor)
}
