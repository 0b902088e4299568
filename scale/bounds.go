package scale

import "cmp"

// kept returns a number, but no more than any of some bounds; and no less than one that goes before them.
func kept[N cmp.Ordered](n, least N, most ...N) N {
	for _, bound := range most {
		n = min(n, bound)
	}
	return max(n, least)
}

// allFrom tells whether all numbers are from the least to the greatest one.
func allFrom[N cmp.Ordered](least, most N, l ...N) bool {
	for _, n := range l {
		if n < least || n > most {
			return false
		}
	}
	return true
}
