package retort

import (
	"iter"

	"gasworks/api"
)

// A charge is so much coal that gives gas from an hour on, until the hour before another one.
type charge struct{ from, until, tons int }

// charges ranges over the charges of stokes that were all done.
func charges(l []api.Stoke) iter.Seq[charge] {
	return func(yield func(charge) bool) {
		for i, k := range l {
			if k.Kind != api.Charge {
				continue
			}
			if !yield(charge{from: k.Hour, until: emptied(l[i+1:], k.Retort), tons: k.Tons}) {
				return
			}
		}
	}
}

// emptied returns the hour in which a retort is emptied next. One that is not stays in for all hours that are looked at.
func emptied(later []api.Stoke, retort int) int {
	for _, k := range later {
		if k.Retort == retort && k.Kind == api.Empty {
			return k.Hour
		}
	}
	return api.MaxHour + 1
}

// hourly returns the gas of each hour in which there are charges that can give some.
func hourly(curve []api.Span, l []api.Stoke) map[int]api.Span {
	gas := map[int]api.Span{}
	for c := range charges(l) {
		for k, s := range curve {
			if hour := c.from + k; hour < c.until {
				gas[hour] = sum(gas[hour], times(s, c.tons))
			}
		}
	}
	return gas
}

func times(s api.Span, n int) api.Span {
	return api.Span{Lo: s.Lo * n, Hi: s.Hi * n}
}

func sum(spans ...api.Span) api.Span {
	var all api.Span
	for _, s := range spans {
		all.Lo += s.Lo
		all.Hi += s.Hi
	}
	return all
}
