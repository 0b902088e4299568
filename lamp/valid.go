package lamp

import "gasworks/api"

func validNight(n api.Night) bool {
	return areTimes(n.Dusk, n.Dawn, n.Rise, n.Set, n.Least) && n.Dusk <= n.Dawn && n.Rise <= n.Set
}

func validTown(t api.Town) bool {
	return isFrom(t.Corners, 1, api.MaxCorners) && areTimes(t.Start) && isFrom(t.Each, 0, api.MaxEach) &&
		validStreets(t.Streets, t.Corners) && validLamps(t.Lamps, t.Corners)
}

func validStreets(l []api.Street, corners int) bool {
	if len(l) > api.MaxStreets {
		return false
	}
	for _, s := range l {
		if !isFrom(s.A, 0, corners-1) || !isFrom(s.B, 0, corners-1) || s.A == s.B || !isFrom(s.Minutes, 1, api.MaxWay) {
			return false
		}
	}
	return true
}

func validLamps(l []api.Lamp, corners int) bool {
	if len(l) > api.MaxLamps {
		return false
	}
	for _, x := range l {
		if !isFrom(x.Corner, 0, corners-1) || !areTimes(x.Early, x.Late) || x.Early > x.Late {
			return false
		}
	}
	return true
}

func areTimes(l ...int) bool {
	for _, n := range l {
		if !isFrom(n, 0, api.MaxMinute) {
			return false
		}
	}
	return true
}

func isFrom(n, least, most int) bool {
	return least <= n && n <= most
}
