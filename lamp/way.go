package lamp

import "gasworks/api"

// A way leads from a corner to another one, or stays where it is.
type way struct{ from, to int }

// ways is how many minutes each way takes that there is.
type ways map[way]int

func newWays(t api.Town) ways {
	w := ways{}
	for corner := range t.Corners {
		w.find(t.Streets, corner)
	}
	return w
}

// find finds the ways from a corner. What comes first from the queue has come by the shortest way, as each street takes some time.
func (w ways) find(streets []api.Street, from int) {
	var todo queue = &pile{}
	todo.add(stop{corner: from})
	for s, is := todo.next(); is; s, is = todo.next() {
		to := way{from: from, to: s.corner}
		if _, known := w[to]; known {
			continue
		}
		w[to] = s.minutes
		for _, street := range streets {
			if end, leads := beyond(street, s.corner); leads {
				todo.add(stop{corner: end, minutes: s.minutes + street.Minutes})
			}
		}
	}
}

// beyond returns the corner to which a street leads from another one, and whether it leads from there.
func beyond(s api.Street, corner int) (end int, leads bool) {
	switch corner {
	case s.A:
		return s.B, true
	case s.B:
		return s.A, true
	}
	return 0, false
}
