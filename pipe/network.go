package pipe

import "gasworks/api"

func validNetwork(n api.Network) bool {
	if !validSpan(n.Source, api.MaxPoints) || !isFrom(len(n.Junctions), 1, api.MaxMains+1) || len(n.Mains) != len(n.Junctions)-1 {
		return false
	}
	for _, j := range n.Junctions {
		if !validJunction(j) {
			return false
		}
	}
	for k, m := range n.Mains {
		if !validMain(m, k) {
			return false
		}
	}
	return true
}

func validJunction(j api.Junction) bool {
	return validSpan(j.Need, api.MaxNeed) &&
		isFrom(j.Least, -api.MaxPoints, j.Most) && j.Most <= api.MaxPoints &&
		(j.Governor == api.NoGovernor || isFrom(j.Governor, 0, api.MaxPoints))
}

func validMain(m api.Main, number int) bool {
	return isFrom(m.From, 0, number) && isFrom(m.Drop, 0, api.MaxDrop) &&
		(m.Valve == api.Open || m.Valve == api.Shut || m.Valve == api.Doubtful) && isFrom(m.Cost, 1, api.MaxCost)
}

// validSpan tells whether a span is valid, and within 0 to most.
func validSpan(s api.Span, most int) bool {
	return isFrom(s.Lo, 0, s.Hi) && s.Hi <= most
}

func isFrom(n, least, most int) bool {
	return least <= n && n <= most
}
