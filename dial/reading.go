package dial

import (
	"cmp"
	"iter"
	"slices"

	"gasworks/api"
)

// A reading is what a meter showed in some hour.
type reading struct{ hour, shows int }

func (a reading) compare(b reading) int {
	return cmp.Compare(a.hour, b.hour)
}

// readings ranges over the readings of a house in the order of the cards, each of them once.
func readings(cards []api.Card, house int) iter.Seq[reading] {
	return func(yield func(reading) bool) {
		seen := map[reading]bool{}
		for _, c := range cards {
			r := reading{hour: c.Hour, shows: c.Shows}
			if c.House != house || seen[r] {
				continue
			}
			seen[r] = true
			if !yield(r) {
				return
			}
		}
	}
}

// sorted returns the readings of a house by their hours.
func sorted(cards []api.Card, house int) []reading {
	var l []reading
	for r := range readings(cards, house) {
		l = append(l, r)
	}
	slices.SortFunc(l, reading.compare)
	return l
}

// speakAgainst tells whether two of the readings, which are sorted and differ, are of the same hour.
func speakAgainst(l []reading) bool {
	for i := range len(l) - 1 {
		if l[i].hour == l[i+1].hour {
			return true
		}
	}
	return false
}
