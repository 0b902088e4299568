package penny

import (
	"math"
	"slices"

	"gasworks/api"
)

// A division is how many pennies were put in while each tariff was in force.
type division [api.MaxTariffs]pennies

// divide visits each division of the pennies that some course has, with what the pennies buy.
func (m meter) divide(visit func(put division, bought int)) {
	periods := slices.Collect(m.periods())
	var try func(put division, at int, rest pennies, bought int)
	try = func(put division, at int, rest pennies, bought int) {
		if at == len(periods) {
			if rest == 0 {
				visit(put, bought)
			}
			return
		}
		p := periods[at]
	numbers:
		for n := range rest + 1 {
			for _, mark := range p.marks {
				if !m.fits(p, mark, bought, n) {
					continue numbers
				}
			}
			put[at] = n
			try(put, at+1, rest-n, bought+p.buys(n))
		}
	}
	try(division{}, 0, pennies(m.slot.Coins), 0)
}

// fits tells whether a mark of the period can be when so much was bought before the period and n pennies are put in during it. By the last hour all of them are in. By an earlier one, no more have to be in than were needed until then: more of them could only fill the meter. Each mark can be looked at alone, since a later one never needs fewer.
func (m meter) fits(p period, mark api.Mark, bought int, n pennies) bool {
	in := n
	if mark.Hour < p.last {
		in = min(n, p.least(mark.Used-m.slot.Start-bought))
	}
	return m.check(mark, bought+p.buys(in)) == api.OK
}

// courses is what is kept of all courses: how many pennies were put in at each tariff, and what they bought.
type courses struct {
	put    [api.MaxTariffs]api.Span
	bought api.Span
}

// newCourses returns what is kept of no course: spans without any number, which the first course makes valid.
func newCourses() *courses {
	nothing := api.Span{Lo: math.MaxInt, Hi: math.MinInt}
	c := &courses{bought: nothing}
	for i := range c.put {
		c.put[i] = nothing
	}
	return c
}

// add takes in the courses with a division, which buy so much.
func (c *courses) add(put division, bought int) {
	for i, n := range put {
		c.put[i] = widened(c.put[i], n)
	}
	c.bought = widened(c.bought, bought)
}

// found tells whether there was a course.
func (c *courses) found() bool {
	return c.bought.Lo <= c.bought.Hi
}

// widened returns a span that contains one number more.
func widened[N ~int](s api.Span, n N) api.Span {
	return api.Span{Lo: min(s.Lo, int(n)), Hi: max(s.Hi, int(n))}
}
