package coal

import (
	"iter"

	"gasworks/api"
)

// A stretch is the hundredweights from one number up to the one before another, of all coal that arrived, counted layer by layer. The oldest layer is used first: so each layer is a stretch, and so is what draws take that follow each other.
type stretch struct{ from, to int }

// common returns how many hundredweights are in both stretches.
func (s stretch) common(t stretch) int {
	return max(0, min(s.to, t.to)-max(s.from, t.from))
}

// drawn returns the stretch of the draws from first to last, or the error of the yard, or of these numbers.
func drawn(y api.Yard, first, last int) (stretch, api.Errno) {
	if e := check(y); e != api.OK {
		return stretch{}, e
	}
	var s stretch
	draws := 0
	for _, m := range y.Moves {
		if m.Coal != api.Drawn {
			continue
		}
		if draws < first {
			s.from += m.Tons
		}
		if draws <= last {
			s.to += m.Tons
		}
		draws++
	}
	if first < 0 || first > last || last >= draws {
		return stretch{}, api.ErrRange
	}
	return s, api.OK
}

// undrawn returns the stretch that no draw took.
func undrawn(moves []api.Move) stretch {
	var s stretch
	for _, m := range moves {
		if m.Coal == api.Drawn {
			s.from += m.Tons
		} else {
			s.to += m.Tons
		}
	}
	return s
}

// A layer is coal that was tipped together: the hundredweights of each coal, and its stretch.
type layer struct {
	contents [api.MaxCoals]int
	all      stretch
}

// layers ranges over the layers, with their numbers. Each one is complete before a draw can take of it, as a draw ends it.
func layers(moves []api.Move) iter.Seq2[int, layer] {
	return func(yield func(int, layer) bool) {
		number := 0
		var l layer
		for i, m := range moves {
			if m.Coal == api.Drawn {
				continue
			}
			l.contents[m.Coal] += m.Tons
			l.all.to += m.Tons
			if joins(moves, i+1) {
				continue
			}
			if !yield(number, l) {
				return
			}
			number++
			l = layer{all: stretch{from: l.all.to, to: l.all.to}}
		}
	}
}

// joins tells whether there is a move with this index, and it belongs to the layer of the arrival directly before it.
func joins(moves []api.Move, i int) bool {
	return i < len(moves) && moves[i].Coal != api.Drawn && moves[i].Hour == moves[i-1].Hour
}

// A portion is so many hundredweights of a layer, which can be any of it.
type portion struct {
	layer  layer
	number int
	tons   int
}

// portions returns what a stretch has of the layers, by layers.
func portions(moves []api.Move, s stretch) []portion {
	var l []portion
	for number, of := range layers(moves) {
		if tons := s.common(of.all); tons > 0 {
			l = append(l, portion{layer: of, number: number, tons: tons})
		}
	}
	return l
}

func parts(portions []portion) []api.Part {
	var l []api.Part
	for _, p := range portions {
		l = append(l, api.Part{Layer: p.number, Tons: p.tons})
	}
	return l
}
