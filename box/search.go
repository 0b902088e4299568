package box

import "gasworks/api"

// A plan is the cheapest turns from some hour on that keep the gas clean: the hours of the turns by bits, and their cost. It is empty if there are none.
type plan struct {
	clean       bool
	turns, cost int
}

func (p plan) better(q plan) bool {
	return p.clean && (!q.clean || p.cost < q.cost)
}

// search returns the plan of all hours. What keeps the greatest loads clean does so in every course; and of plans of the same cost the one that waits is kept, as it comes first.
func search(t api.Train) plan {
	known := map[stand]plan{}
	var from func(s stand) plan
	from = func(s stand) plan {
		if s.hour == len(t.Loads) {
			return plan{clean: true}
		}
		s.comeBack(len(t.Boxes))
		best, is := known[s]
		if is {
			return best
		}
		for _, turn := range [...]bool{false, true} {
			if p := choose(t, s, turn, from); p.better(best) {
				best = p
			}
		}
		known[s] = best
		return best
	}
	return from(start(t.Boxes))
}

// choose returns the plan that begins with a turn in this hour, or without one, and goes on as from tells.
func choose(t api.Train, s stand, turn bool, from func(stand) plan) plan {
	if turn && s.in == 1 {
		return plan{}
	}
	hour, turns, cost := s.hour, 0, 0
	if turn {
		turns = 1 << hour
		cost = s.turn(t)
	}
	if s.pass(t, t.Loads[hour].Hi) > 0 {
		return plan{}
	}
	rest := from(s)
	if !rest.clean {
		return plan{}
	}
	return plan{clean: true, turns: turns | rest.turns, cost: cost + rest.cost}
}
