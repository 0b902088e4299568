package holder

import "gasworks/api"

// A fault is what is wrong with a table, and at which row. It ends a check by a panic: so what reads the rows need not hand it on.
type fault struct {
	row int
	e   api.Errno
}

// read returns the costs of the states that have rows.
func (k keeper) read(table []api.Row) map[state]int {
	if len(table) > api.MaxRows {
		panic(fault{row: 0, e: api.ErrLong})
	}
	costs := map[state]int{}
	for i, r := range table {
		if !k.isRow(r) {
			panic(fault{row: i, e: api.ErrRange})
		}
		if i > 0 && !stateOf(table[i-1]).before(stateOf(r)) {
			panic(fault{row: i, e: api.ErrOrder})
		}
		costs[stateOf(r)] = r.Cost
	}
	return costs
}

func (k keeper) isRow(r api.Row) bool {
	return isFrom(r.Hour, 0, len(k.Draws)) && isFrom(r.Total, 0, k.Retorts*r.Hour) && isFrom(r.Lit, 0, k.Retorts) &&
		(r.Cost == api.NoWay || isFrom(r.Cost, 0, api.MaxPay))
}

func stateOf(r api.Row) state {
	return state{hour: r.Hour, total: r.Total, lit: r.Lit}
}

// prove holds each row against the rows to which its steps lead. A Cost that is too low does not make a plan too cheap, so only one above the least is refused; in the last hour the least is 0, and the Cost has to be.
func (k keeper) prove(table []api.Row, costs map[state]int) {
	for i, r := range table {
		s := stateOf(r)
		for t := range k.steps(s) {
			if _, is := costs[t]; !is {
				panic(fault{row: i, e: api.ErrShort})
			}
		}
		if best := k.rest(s, costs); best != api.NoWay && (r.Cost == api.NoWay || r.Cost > best) {
			panic(fault{row: i, e: api.ErrRefuse})
		}
	}
}

// judge returns whether the costs of a table that was proved say of a plan that none is cheaper, or of no plan that none holds.
func (k keeper) judge(costs map[state]int, plan []int) api.Errno {
	least, is := costs[first(k.Watch)]
	if !is {
		return api.ErrNone
	}
	if least == api.NoWay {
		if len(plan) > 0 {
			return api.ErrState
		}
		return api.OK
	}
	if !isPlan(k.Watch, plan) {
		return api.ErrState
	}
	if _, _, e := k.follow(plan); e != api.OK {
		return api.ErrState
	}
	if k.cost(plan) > least {
		return api.ErrNone
	}
	return api.OK
}
