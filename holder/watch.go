package holder

import "gasworks/api"

func validWatch(w api.Watch) bool {
	if !isFrom(w.Full, 0, api.MaxGas) || !isFrom(w.Least, 0, w.Full) || !validSpan(w.Start, 0, api.MaxGas) || len(w.Draws) > api.MaxWatch {
		return false
	}
	for _, d := range w.Draws {
		if !validSpan(d, 0, api.MaxGas) {
			return false
		}
	}
	return isFrom(w.Retorts, 0, api.MaxRetorts) && isFrom(w.Lit, 0, w.Retorts) &&
		isFrom(w.Yield, 0, api.MaxGas) && isFrom(w.Coal, 0, api.MaxCoal) && isFrom(w.Light, 0, api.MaxCoal)
}

func isPlan(w api.Watch, plan []int) bool {
	if len(plan) != len(w.Draws) {
		return false
	}
	for _, lit := range plan {
		if !isFrom(lit, 0, w.Retorts) {
			return false
		}
	}
	return true
}

// A course is a number for Start and one for each draw: left is what they leave in the holder after each hour if no retort is lit.
type course struct {
	left  []int
	yield int
}

// has returns what the holder has after an hour, with so many retort hours by its end.
func (c course) has(hour, total int) int {
	return c.left[hour] + c.yield*total
}

// lowest returns the course in which the holder never has less in any other one.
func lowest(w api.Watch) course {
	return newCourse(w, w.Start.Lo, func(s api.Span) int { return s.Hi })
}

// highest returns the course in which the holder never has more in any other one.
func highest(w api.Watch) course {
	return newCourse(w, w.Start.Hi, func(s api.Span) int { return s.Lo })
}

func newCourse(w api.Watch, start int, drawn func(api.Span) int) course {
	c := course{left: make([]int, len(w.Draws)), yield: w.Yield}
	for hour, d := range w.Draws {
		start -= drawn(d)
		c.left[hour] = start
	}
	return c
}

// A keeper keeps a watch. Its low and high tell what the holder has after an hour, with so many retort hours by its end, in the lowest course and in the highest one: all other courses lie between them.
type keeper struct {
	api.Watch
	low, high func(hour, total int) int
}

func newKeeper(w api.Watch) keeper {
	return keeper{Watch: w, low: lowest(w).has, high: highest(w).has}
}

// after returns what the holder can have after an hour, or what is wrong then.
func (k keeper) after(hour, total int) (api.Span, api.Errno) {
	held := api.Span{Lo: k.low(hour, total), Hi: k.high(hour, total)}
	if held.Lo < k.Least {
		return api.Span{}, api.ErrShort
	}
	if held.Hi > k.Full {
		return api.Span{}, api.ErrFull
	}
	return held, api.OK
}

// follow returns what the holder can have after each hour of a plan, and the number of hours; or the first hour in which it does not hold, and why.
func (k keeper) follow(plan []int) ([]api.Span, int, api.Errno) {
	held := make([]api.Span, len(plan))
	total := 0
	for hour, lit := range plan {
		total += lit
		s, e := k.after(hour, total)
		if e != api.OK {
			return nil, hour, e
		}
		held[hour] = s
	}
	return held, len(plan), api.OK
}

// price returns what an hour costs.
func (k keeper) price(before, lit int) int {
	return k.Coal*lit + k.Light*max(0, lit-before)
}

// cost returns what a plan costs.
func (k keeper) cost(plan []int) int {
	sum, before := 0, k.Lit
	for _, lit := range plan {
		sum += k.price(before, lit)
		before = lit
	}
	return sum
}
