package retort

import "gasworks/api"

// lies tells whether a span is valid, and lies within two bounds: then what of it is between them is all of it.
func lies(s api.Span, least, most int) bool {
	between := api.Span{Lo: max(s.Lo, least), Hi: min(s.Hi, most)}
	return s.Lo <= s.Hi && s == between
}

func isFrom(n, least, most int) bool {
	return least <= n && n <= most
}

func validHouse(w api.House) bool {
	if !isFrom(len(w.Curve), 1, api.MaxCurve) {
		return false
	}
	for _, s := range w.Curve {
		if !lies(s, 0, api.MaxYield) {
			return false
		}
	}
	return isFrom(w.Least, 1, api.MaxCurve) &&
		isFrom(w.Runs, 1, api.MaxCount) &&
		isFrom(w.Scurf, 1, api.MaxCount) &&
		isFrom(w.Gang, 1, api.MaxCount) &&
		isFrom(w.Coolings, 0, api.MaxCount)
}

func validStoke(k api.Stoke) bool {
	least, most := 0, 0
	if k.Kind == api.Charge {
		least, most = 1, api.MaxCharge
	}
	return isFrom(k.Hour, 0, api.MaxHour) &&
		isFrom(k.Retort, 0, api.MaxRetort) &&
		isFrom(k.Kind, api.Charge, api.LightUp) &&
		isFrom(k.Tons, least, most)
}
