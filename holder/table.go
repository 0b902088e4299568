package holder

import (
	"slices"

	"gasworks/api"
)

// reached returns the states that can be reached from the first one, in their order: a step leads to a later hour, so what it adds to the agenda comes after what was taken from it.
func (k keeper) reached() []state {
	var todo agenda = newPile()
	todo.add(first(k.Watch))
	var states []state
	for s, is := todo.next(); is; s, is = todo.next() {
		states = append(states, s)
		for t := range k.steps(s) {
			todo.add(t)
		}
	}
	return states
}

// costs returns the least that it can cost to come from each state to the last hour. The states are all those to which steps lead, in their order.
func (k keeper) costs(states []state) map[state]int {
	costs := map[state]int{}
	for _, s := range slices.Backward(states) {
		costs[s] = k.rest(s, costs)
	}
	return costs
}

// rest returns the least that it can cost to come from a state to the last hour, if the costs of the states to which steps lead are known.
func (k keeper) rest(s state, costs map[state]int) int {
	if s.hour == len(k.Draws) {
		return 0
	}
	best := api.NoWay
	for t, price := range k.steps(s) {
		if costs[t] == api.NoWay {
			continue
		}
		if sum := price + costs[t]; best == api.NoWay || sum < best {
			best = sum
		}
	}
	return best
}

// cheapest returns the first plan of the least cost, if there is one: it lights in each hour the fewest retorts with which the least cost can still be had.
func (k keeper) cheapest(costs map[state]int) []int {
	plan := make([]int, len(k.Draws))
	s := first(k.Watch)
	for hour := range plan {
		s = k.next(s, costs)
		plan[hour] = s.lit
	}
	return plan
}

// next returns the first state to which a step leads on the cheapest way from a state.
func (k keeper) next(s state, costs map[state]int) state {
	for t, price := range k.steps(s) {
		if costs[t] != api.NoWay && price+costs[t] == costs[s] {
			return t
		}
	}
	return s
}

// rows returns a row for each state.
func rows(states []state, costs map[state]int) []api.Row {
	out := make([]api.Row, len(states))
	for i, s := range states {
		out[i] = api.Row{Hour: s.hour, Total: s.total, Lit: s.lit, Cost: costs[s]}
	}
	return out
}
