package balance

import "gasworks/api"

// An end is one of the two ends of spans: how to tell it, and the other one, and which of two bounds is the tighter one here.
type end struct {
	of, other func(s api.Span) int
	tighter   func(a, b int) int
}

func lo(s api.Span) int { return s.Lo }

func hi(s api.Span) int { return s.Hi }

func least() end {
	return end{of: lo, other: hi, tighter: func(a, b int) int { return max(a, b) }}
}

func greatest() end {
	return end{of: hi, other: lo, tighter: func(a, b int) int { return min(a, b) }}
}

// bound returns where a flow into the set has to end, as what goes in comes out: at what can come out, less what else can go in.
func (e end) bound(s set, p api.Plant, flow int) int {
	c := s.crossing(p.Flows)
	rest := e.other(c[into]) - e.other(p.Flows[flow].Gas)
	return e.of(c[outOf]) - rest
}

// tight returns this end of the flow's tight span, if there is a truth. The bounds of the sets are enough: a number within all of them leaves no contradiction, and so there is a truth with it.
func (e end) tight(p api.Plant, flow int) int {
	f := p.Flows[flow]
	tight := e.of(f.Gas)
	for s := range sets(p.Places) {
		if s.takes(f) {
			tight = e.tighter(tight, e.bound(s, p, flow))
		}
	}
	return tight
}

// proof returns the first set whose bound is this end of the flow's tight span.
func (e end) proof(p api.Plant, flow, tight int) set {
	var found set
search:
	for s := range sets(p.Places) {
		switch {
		case !s.takes(p.Flows[flow]):
			continue
		case e.bound(s, p, flow) == tight:
			found = s
			break search
		}
	}
	return found
}
