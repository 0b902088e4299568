package tar

import (
	"iter"

	"gasworks/api"
)

// A course is how far a plan was worked: how often each still was, what is left then, and what was paid.
type course struct {
	plan [api.MaxStills]int
	left goods
	cost int
}

// newCourse returns the course in which no still was worked yet.
func newCourse(stock []int) course {
	var c course
	for i, n := range stock {
		c.left[i] = exactly(n)
	}
	return c
}

// with returns the course in which a still is worked so often next, and whether it can be. While a still is worked nothing comes of the good that it takes: all of it must surely be there before.
func (c course) with(at int, s api.Still, times int) (next course, can bool) {
	if c.left[s.In].Lo < times*s.Takes {
		return course{}, false
	}
	c.plan[at] = times
	c.left = sum(c.left, takenBy(s, times), madeBy(s, times))
	c.cost += times * s.Pay
	return c, true
}

// courses ranges over the ways in which a course can go on with the stills from a place on, in lexicographic order of their plans.
func courses(stills []api.Still, at int, c course) iter.Seq[course] {
	return func(yield func(course) bool) {
		if at == len(stills) {
			yield(c)
			return
		}
		for times := range stills[at].Most + 1 {
			next, can := c.with(at, stills[at], times)
			if !can {
				// More often it would take still more.
				return
			}
			for whole := range courses(stills, at+1, next) {
				if !yield(whole) {
					return
				}
			}
		}
	}
}
