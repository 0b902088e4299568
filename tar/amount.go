package tar

import "gasworks/api"

// An amount is how much there is, comes or goes of something: from a least number to a greatest one. What goes is below 0.
type amount api.Span

func exactly(n int) amount {
	return amount{Lo: n, Hi: n}
}

func (a amount) plus(other amount) amount {
	return amount{Lo: a.Lo + other.Lo, Hi: a.Hi + other.Hi}
}

// times returns what comes of the amount so often, each time any number of it.
func (a amount) times(n int) amount {
	return amount{Lo: n * a.Lo, Hi: n * a.Hi}
}

// sum adds up amounts of one thing, or of all goods.
func sum[T interface{ plus(other T) T }](l ...T) T {
	var all T
	for _, x := range l {
		all = all.plus(x)
	}
	return all
}

// spans returns the amounts as they are told.
func spans(l []amount) []api.Span {
	var told []api.Span
	for _, a := range l {
		told = append(told, api.Span(a))
	}
	return told
}

// loadOf returns what a cart can have carried.
func loadOf(w api.Weighing) amount {
	return amount{Lo: max(0, w.Full.Lo-w.Empty.Hi), Hi: w.Full.Hi - w.Empty.Lo}
}
