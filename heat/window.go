package heat

import (
	"cmp"
	"iter"

	"gasworks/api"
)

// window ranges over the tests of so many hours, of which the given one is the last.
func window(l []api.Test, hour, hours int) iter.Seq[api.Test] {
	return func(yield func(api.Test) bool) {
		for _, t := range l {
			if t.Hour > hour-hours && t.Hour <= hour && !yield(t) {
				return
			}
		}
	}
}

// outcomes returns what comes of the window of an hour in the truths of the least and of the greatest heat.
func outcomes(d api.Decree, l []api.Test, hour int) (cold, hot outcome) {
	var sum api.Span
	tests := 0
	for t := range window(l, hour, d.Window) {
		sum.Lo += t.Heat.Lo
		sum.Hi += t.Heat.Hi
		tests++
	}
	must := d.Declared - d.Slack
	cold = outcome{fraction: fraction{sum.Lo, tests}, must: must, pay: d.Pay}
	hot = outcome{fraction: fraction{sum.Hi, tests}, must: must, pay: d.Pay}
	return cold, hot
}

// A certainty is whether something is so in each truth. Its values are the numbers of api, in the same order.
type certainty int

const (
	never certainty = iota
	maybe
	always
)

// surety returns whether a window is kept.
func surety(cold, hot outcome) certainty {
	switch {
	case cold.isKept():
		return always
	case hot.isKept():
		return maybe
	}
	return never
}

// A verdict is whether the window of an hour is kept.
type verdict struct {
	hour int
	kept certainty
}

// verdicts ranges over the hours of the tests: in each of them the window has a test.
func verdicts(d api.Decree, l []api.Test) iter.Seq[verdict] {
	return func(yield func(verdict) bool) {
		for _, t := range l {
			if !yield(verdict{t.Hour, surety(outcomes(d, l, t.Hour))}) {
				return
			}
		}
	}
}

// compare orders verdicts: the worst ones first, and of these those of the first hours.
func (v verdict) compare(other verdict) int {
	return cmp.Or(cmp.Compare(v.kept, other.kept), cmp.Compare(v.hour, other.hour))
}
