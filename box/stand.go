package box

import (
	"iter"

	"gasworks/api"
)

// A stand is how all boxes stand in some hour, place by place: those of the series have the first places, in their order, and those that are out have the next ones, in the order in which they were turned out. As all are out for as long, that is also the order in which they come back. Places without a box, and what has no meaning in a place, are 0: so stands that are alike are equal.
type stand struct {
	hour, in                 int
	box, foul, revived, back [api.MaxBoxes]int
}

// start returns how the boxes stand at first.
func start(boxes []api.Box) stand {
	s := stand{in: len(boxes)}
	for place, b := range boxes {
		s.box[place] = place
		s.foul[place] = b.Foul
	}
	return s
}

// series ranges over the boxes of the series, with their places.
func (s stand) series(boxes []api.Box) iter.Seq2[int, api.Box] {
	return func(yield func(int, api.Box) bool) {
		for place, box := range s.box[:s.in] {
			if !yield(place, boxes[box]) {
				return
			}
		}
	}
}

// comeBack ends the rest of the box whose hour this is: its place is already the one after the series.
func (s *stand) comeBack(boxes int) {
	if s.in < boxes && s.back[s.in] == s.hour {
		s.back[s.in] = 0
		s.in++
	}
}

// turn turns out the first box of the series, and returns what that costs.
func (s *stand) turn(t api.Train) int {
	cost := t.Tip
	if s.revived[0] < t.Revives {
		cost = t.Work
		s.revived[0]++
	} else {
		s.revived[0] = 0
	}
	s.back[0] = s.hour + t.Rest
	n := len(t.Boxes)
	rotate(s.box[:n], s.foul[:n], s.revived[:n], s.back[:n])
	s.in--
	clear(s.foul[s.in:])
	return cost
}

// rotate puts the first one of each list behind all others.
func rotate(lists ...[]int) {
	for _, l := range lists {
		first := l[0]
		copy(l, l[1:])
		l[len(l)-1] = first
	}
}

// pass lets what comes in this hour pass the series, ends the hour, and returns what slips through.
func (s *stand) pass(t api.Train, comes int) int {
	for place, b := range s.series(t.Boxes) {
		room := b.Room - t.Wear*s.revived[place] - s.foul[place]
		takes := min(comes, b.Rate, room)
		s.foul[place] += takes
		comes -= takes
	}
	s.hour++
	return comes
}
