package heat

import "gasworks/api"

// checkAll returns ErrLong for too many tests, and ErrArg unless they and the decree are valid.
func checkAll(d api.Decree, l []api.Test) api.Errno {
	if e := checkTests(l); e != api.OK {
		return e
	}
	if !validDecree(d) {
		return api.ErrArg
	}
	return api.OK
}

func checkTests(l []api.Test) api.Errno {
	if len(l) > api.MaxTests {
		return api.ErrLong
	}
	for _, t := range l {
		if !validTest(t) {
			return api.ErrArg
		}
	}
	return api.OK
}

func validSupplies(l []api.Supply) bool {
	for _, s := range l {
		if !validHeat(s.Heat) || !isFrom(s.Volume, 0, 1) {
			return false
		}
		if !isFrom(s.Most, 0, api.MaxParts) || !isFrom(s.Pay, 0, api.MaxPrice) {
			return false
		}
	}
	return true
}

func validTest(t api.Test) bool {
	return isFrom(t.Hour, 0, api.MaxHour) && isFrom(t.Station, 0, api.MaxStation) && validHeat(t.Heat)
}

func validDecree(d api.Decree) bool {
	if !isFrom(d.Window, 1, api.MaxPeriod) || !isFrom(d.Pay, 0, api.MaxPrice) {
		return false
	}
	return isFrom(d.Declared, 0, api.MaxHeat) && isFrom(d.Slack, 0, d.Declared)
}

func validHeat(s api.Span) bool {
	return isFrom(s.Lo, 0, s.Hi) && s.Hi <= api.MaxHeat
}

func validHours(s api.Span) bool {
	return isFrom(s.Lo, 0, s.Hi) && s.Hi <= api.MaxHour
}

func isFrom(n, least, most int) bool {
	return least <= n && n <= most
}
