package heat

// A fraction is a number that is not below 0, divided by one that is at least 1.
type fraction struct{ sum, by int }

// isAtLeast tells whether the fraction is not below a number.
func (f fraction) isAtLeast(n int) bool {
	return f.sum >= n*f.by
}

// up returns the fraction, rounded up.
func (f fraction) up() int {
	return (f.sum + f.by - 1) / f.by
}

// An outcome is the average heat of the tests of a window in some truth, with the heat that must be, and what is paid for a unit that lacks.
type outcome struct {
	fraction
	must, pay int
}

// isKept tells whether the window is kept.
func (o outcome) isKept() bool {
	return o.isAtLeast(o.must)
}

// due returns what is due for the window.
func (o outcome) due() int {
	if o.isKept() {
		return 0
	}
	lacks := o.must*o.by - o.sum
	return fraction{lacks * o.pay, o.by}.up()
}
