package box

import "gasworks/api"

// A course is a train with its turns, and what foulness comes of each load.
type course struct {
	train api.Train
	turns []bool
	comes func(load api.Span) int
}

// ends returns the courses of the least loads and of the greatest ones. Where more comes to a box that is as foul or fouler, it is as foul or fouler afterwards, and no less goes on: so every other course lies between these two in all that is asked.
func ends(t api.Train, turns []bool) (least, greatest course) {
	least = course{train: t, turns: turns, comes: func(load api.Span) int { return load.Lo }}
	return least, raised(t, turns, 0)
}

// raised returns the course of the greatest loads, if each were so much greater.
func raised(t api.Train, turns []bool, more int) course {
	return course{train: t, turns: turns, comes: func(load api.Span) int { return min(load.Hi+more, api.MaxRoom) }}
}

// follow returns how the boxes stand after all hours, and what slips through in each. It ends before the first hour whose turn is wrong.
func (c course) follow() (s stand, slips []int) {
	s = start(c.train.Boxes)
hours:
	for hour, load := range c.train.Loads {
		s.comeBack(len(c.train.Boxes))
		switch {
		case !c.turns[hour]:
		case s.in == 1:
			break hours
		default:
			s.turn(c.train)
		}
		slips = append(slips, s.pass(c.train, c.comes(load)))
	}
	return s, slips
}

// clean tells whether nothing slips through.
func (c course) clean() bool {
	_, slips := c.follow()
	for _, n := range slips {
		if n > 0 {
			return false
		}
	}
	return true
}
