package lamp

import (
	"iter"

	"gasworks/api"
)

// A town is streets and lamps, with the ways between its corners.
type town struct {
	api.Town
	ways ways
}

func newTown(t api.Town) town {
	return town{Town: t, ways: newWays(t)}
}

// A man is at a corner, and free to go on from a minute on.
type man struct{ corner, free int }

// station returns a man who sets out.
func (t town) station() man {
	return man{free: t.Start}
}

// light returns when a man who goes to a lamp next begins to light it, and how he is after that: ErrNone if there is no way to it, ErrOrder if he comes after its Late.
func (t town) light(m man, lamp int) (begun int, after man, e api.Errno) {
	l := t.Lamps[lamp]
	minutes, is := t.ways[way{from: m.corner, to: l.Corner}]
	if !is {
		return 0, man{}, api.ErrNone
	}
	begun = max(l.Early, m.free+minutes)
	if begun > l.Late {
		return 0, man{}, api.ErrOrder
	}
	return begun, man{corner: l.Corner, free: begun + t.Each}, api.OK
}

// orders ranges over the orders in which a man can light a set of lamps next, each in time, in lexicographic order.
func (t town) orders(m man, s lamps) iter.Seq[[]int] {
	return func(yield func([]int) bool) {
		if s.isEmpty() {
			yield(nil)
			return
		}
	first:
		for lamp := range s.each() {
			_, after, e := t.light(m, lamp)
			if e != api.OK {
				continue
			}
			rest := s.without(lamp)
			for other := range rest.each() {
				// By way of other lamps he would come no sooner.
				if _, _, e := t.light(after, other); e != api.OK {
					continue first
				}
			}
			for order := range t.orders(after, rest) {
				if !yield(append([]int{lamp}, order...)) {
					return
				}
			}
		}
	}
}
