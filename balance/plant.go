package balance

import "gasworks/api"

// check returns ErrArg unless the plant is valid, and ErrState if it has no truth.
func check(p api.Plant) api.Errno {
	if !validPlant(p) {
		return api.ErrArg
	}
	if _, is := contradiction(p); is {
		return api.ErrState
	}
	return api.OK
}

func validPlant(p api.Plant) bool {
	if p.Places < 2 || p.Places > api.MaxPlaces || len(p.Flows) > api.MaxFlows {
		return false
	}
	for _, f := range p.Flows {
		if !isPlace(f.From, p.Places) || !isPlace(f.To, p.Places) || f.From == f.To || !validGas(f.Gas) {
			return false
		}
	}
	return true
}

func isPlace(n, places int) bool {
	return 0 <= n && n < places
}

func validGas(s api.Span) bool {
	return 0 <= s.Lo && s.Lo <= s.Hi && s.Hi <= api.MaxGas
}

// contradiction returns the first set into which more has to go than can come out of it, and whether there is one. There is a truth if there is none: flows with bounds can go round unless some set stops them.
func contradiction(p api.Plant) (set, bool) {
	for s := range sets(p.Places) {
		if c := s.crossing(p.Flows); c[into].Lo > c[outOf].Hi {
			return s, true
		}
	}
	return 0, false
}

// fixed returns the plant with one flow that is known, in a list of its own.
func fixed(p api.Plant, flow, gas int) api.Plant {
	flows := make([]api.Flow, len(p.Flows))
	copy(flows, p.Flows)
	flows[flow].Gas = api.Span{Lo: gas, Hi: gas}
	return api.Plant{Places: p.Places, Flows: flows}
}
