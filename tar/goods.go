package tar

import "gasworks/api"

// goods is an amount of each good.
type goods [api.MaxGoods]amount

func (g goods) plus(other goods) goods {
	for i, a := range other {
		g[i] = g[i].plus(a)
	}
	return g
}

// takenBy returns what a still takes that is worked so often.
func takenBy(s api.Still, times int) goods {
	var g goods
	g[s.In] = exactly(-times * s.Takes)
	return g
}

// madeBy returns what comes out of a still that is worked so often.
func madeBy(s api.Still, times int) goods {
	var g goods
	for i, out := range s.Out {
		g[i] = amount(out).times(times)
	}
	return g
}
