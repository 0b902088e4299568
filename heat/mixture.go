package heat

import "gasworks/api"

// A mixture is a number of parts of each supply, and what comes of them: the volume, the least and the greatest heat, and the cost.
type mixture struct {
	parts                   [api.MaxSupplies]int
	volume, cold, hot, cost int
}

// with returns the mixture with n parts of the supply at a place.
func (m mixture) with(at int, s api.Supply, n int) mixture {
	m.parts[at] = n
	m.volume += n * s.Volume
	m.cold += n * s.Heat.Lo
	m.hot += n * s.Heat.Hi
	m.cost += n * s.Pay
	return m
}

// A reserve is what further supplies can add at most: to the volume, and to the least heat.
type reserve struct{ volume, cold int }

// reserves returns what the supplies from each place on can add.
func reserves(l []api.Supply) [api.MaxSupplies + 1]reserve {
	var all [api.MaxSupplies + 1]reserve
	for i := len(l) - 1; i >= 0; i-- {
		s := l[i]
		all[i].volume = all[i+1].volume + s.Most*s.Volume
		all[i].cold = all[i+1].cold + s.Most*s.Heat.Lo
	}
	return all
}

// A demand is what a mixture must be: its volume, and the least and the most heat of the whole of it.
type demand struct{ volume, least, most int }

// isPassed tells whether a mixture has too much of something, and so has it with more parts too.
func (d demand) isPassed(m mixture) bool {
	return m.volume > d.volume || m.hot > d.most
}

// isBeyond tells whether a mixture has too little of something, whatever is added to it from a reserve.
func (d demand) isBeyond(m mixture, left reserve) bool {
	return m.volume+left.volume < d.volume || m.cold+left.cold < d.least
}

// cheapest returns the mixture that costs least of those that a demand allows: of several the first one in lexicographic order.
func cheapest(l []api.Supply, d demand) (best mixture, found bool) {
	left := reserves(l)
	var try func(m mixture, at int)
	try = func(m mixture, at int) {
		if at == len(l) {
			best, found = m, true
			return
		}
	numbers:
		for n := range l[at].Most + 1 {
			next := m.with(at, l[at], n)
			switch {
			case d.isPassed(next), found && next.cost >= best.cost:
				break numbers
			case d.isBeyond(next, left[at+1]):
				continue
			}
			try(next, at+1)
		}
	}
	// Only mixtures that are neither passed nor beyond are tried: with nothing left, these are the right ones.
	if !d.isBeyond(mixture{}, left[0]) {
		try(mixture{}, 0)
	}
	return best, found
}
