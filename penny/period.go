package penny

import (
	"iter"

	"gasworks/api"
)

// pennies is a number of pennies: a type of its own, so that it is not taken for what they buy.
type pennies int

// A period is the hours in which a tariff is in force, from the first to the last, and the marks of these hours.
type period struct {
	first, last, feet int
	marks             []api.Mark
}

// periods ranges over the tariffs, each with its marks.
func (m meter) periods() iter.Seq[period] {
	return func(yield func(period) bool) {
		for i, t := range m.slot.Tariffs {
			p := period{first: t.From, last: m.slot.Now, feet: t.Feet}
			if i+1 < len(m.slot.Tariffs) {
				p.last = m.slot.Tariffs[i+1].From - 1
			}
			for _, mark := range m.marks {
				if isFrom(mark.Hour, p.first, p.last) {
					p.marks = append(p.marks, mark)
				}
			}
			if !yield(p) {
				return
			}
		}
	}
}

// buys returns what so many pennies buy in the period.
func (p period) buys(n pennies) int {
	return int(n) * p.feet
}

// least returns the least number of pennies that buy so much in the period.
func (p period) least(gas int) pennies {
	return pennies((max(0, gas) + p.feet - 1) / p.feet)
}

// putIn returns how many pennies were put in during the period by the end of an hour.
func (p period) putIn(hours []int, by int) pennies {
	var n pennies
	for _, hour := range hours {
		if isFrom(hour, p.first, by) {
			n++
		}
	}
	return n
}
