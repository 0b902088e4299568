package scale

import "gasworks/api"

// whole is the whole capital, in the hundredths of a percent in which rates are told.
const whole = 10_000

// A law is a valid act.
type law api.Act

// rate returns the rate of a price.
func (a law) rate(price int) int {
	return kept(a.Dividend+a.Gain*a.to(price).steps(a.Step), 0, api.MaxDividend)
}

// due returns the rate of a year, and what is due in it.
func (a law) due(y api.Year) (rate, due int) {
	rate = a.rate(y.Price)
	return rate, y.Capital * rate / whole
}

// to returns the gap from the price of the act to another one.
func (a law) to(price int) gap {
	if price > a.Price {
		return dearer(price - a.Price)
	}
	return cheaper(a.Price - price)
}

// A gap tells how many steps a price is below that of the act: below 0 if it is above it.
type gap interface{ steps(step int) int }

// A cheaper price is so many farthings below that of the act, or equal to it, and counts for the whole steps in them.
type cheaper int

func (c cheaper) steps(step int) int {
	return int(c) / step
}

// A dearer price is so many farthings above that of the act, and counts for each step that has begun.
type dearer int

func (d dearer) steps(step int) int {
	return -((int(d) + step - 1) / step)
}
