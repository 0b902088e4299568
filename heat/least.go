package heat

import "iter"

// leastOf returns the least element of a sequence, the first one of several. It is not found if there is no element.
func leastOf[T any](all iter.Seq[T], compare func(a, b T) int) (least T, found bool) {
	for x := range all {
		if !found || compare(x, least) < 0 {
			least, found = x, true
		}
	}
	return least, found
}
