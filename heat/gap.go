package heat

import (
	"cmp"
	"iter"

	"gasworks/api"
)

// A gap is an hour up to which a station had no test for a whole period.
type gap struct{ hour, station int }

// gaps ranges over the first gap of each station that has one, with its period within the hours.
func gaps(l []api.Test, stations, period int, hours api.Span) iter.Seq[gap] {
	return func(yield func(gap) bool) {
		for station := range stations {
			hour := untested(l, station, period, hours.Lo+period-1)
			if hour <= hours.Hi && !yield(gap{hour, station}) {
				return
			}
		}
	}
}

// untested returns the first hour, from a given one on, up to which a station had no test for a whole period.
func untested(l []api.Test, station, period, hour int) int {
	for {
		last := -1
		for t := range window(l, hour, period) {
			if t.Station == station {
				last = max(last, t.Hour)
			}
		}
		if last < 0 {
			return hour
		}
		hour = last + period
	}
}

// compare orders gaps by their hours, and those of the same hour by their stations.
func (g gap) compare(other gap) int {
	return cmp.Or(cmp.Compare(g.hour, other.hour), cmp.Compare(g.station, other.station))
}
