package lamp

import (
	"iter"
	"slices"

	"gasworks/api"
)

// A finding is what was found of a set of lamps: whether one man can light it.
type finding int

const (
	unknown finding = iota
	yes
	no
)

// A roster is a town for which men are sought, and what was found of each set of its lamps.
type roster struct {
	town
	found [1 << api.MaxLamps]finding
}

func newRoster(t api.Town) *roster {
	return &roster{town: newTown(t)}
}

// can tells whether one man can light a set of lamps.
func (r *roster) can(s lamps) bool {
	if r.found[s] == unknown {
		r.found[s] = no
		for range r.orders(r.station(), s) {
			r.found[s] = yes
			break
		}
	}
	return r.found[s] == yes
}

// An allotment is the lamps of each man. Those who have none come last, and there is one of them at least.
type allotment [api.MaxLamps + 1]lamps

// men returns how many men have lamps.
func (a allotment) men() int {
	return slices.IndexFunc(a[:], lamps.isEmpty)
}

// told returns the man of each of so many lamps.
func (a allotment) told(number int) []int {
	l := make([]int, number)
	for man, s := range a {
		for lamp := range s.each() {
			l[lamp] = man
		}
	}
	return l
}

// allotments ranges over those in time that take so many men at most and give the lamps before one as an allotment does, in lexicographic order. Whoever cannot light some lamps cannot light more of them.
func (r *roster) allotments(a allotment, lamp, most int) iter.Seq[allotment] {
	return func(yield func(allotment) bool) {
		if lamp == len(r.Lamps) {
			yield(a)
			return
		}
		for man := range min(a.men()+1, most) {
			next := a
			next[man] = a[man].with(lamp)
			if !r.can(next[man]) {
				continue
			}
			for whole := range r.allotments(next, lamp+1, most) {
				if !yield(whole) {
					return
				}
			}
		}
	}
}

// fewest returns the first allotment in time with the fewest men, and whether there is one: there is, unless some lamp alone cannot be lit.
func (r *roster) fewest() (allotment, bool) {
	for most := range len(r.Lamps) + 1 {
		for a := range r.allotments(allotment{}, 0, most) {
			return a, true
		}
	}
	return allotment{}, false
}
