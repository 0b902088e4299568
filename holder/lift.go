package holder

import "gasworks/api"

// plain is what gas that is as warm as it should be is divided by: each degree more adds 1.
const plain = 500

func validLifts(l []api.Lift) bool {
	if !isFrom(len(l), 1, api.MaxLifts) {
		return false
	}
	for _, x := range l {
		if !isFrom(x.Area, 1, api.MaxArea) || !isFrom(x.Rise, 1, api.MaxRise) {
			return false
		}
	}
	return true
}

func isFrom(n, least, most int) bool {
	return least <= n && n <= most
}

func validSpan(s api.Span, least, most int) bool {
	return least <= s.Lo && s.Lo <= s.Hi && s.Hi <= most
}

// top returns the greatest height.
func top(l []api.Lift) int {
	height := 0
	for _, x := range l {
		height += x.Rise
	}
	return height
}

func volume(l []api.Lift, height int) int {
	v := 0
	for _, x := range l {
		risen := min(height, x.Rise)
		v += x.Area * risen
		height -= risen
	}
	return v
}

// held returns how much gas there can be: least where the holder stands lowest and the gas is warmest, as warm gas takes more room.
func held(l []api.Lift, height, warm api.Span) api.Span {
	hot, cold := plain+warm.Hi, plain+warm.Lo
	return api.Span{
		Lo: plain * volume(l, height.Lo) / hot,
		Hi: (plain*volume(l, height.Hi) + cold - 1) / cold,
	}
}
