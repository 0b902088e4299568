package lamp

import "gasworks/api"

// burning returns when lamps burn in a night.
func burning(n api.Night) []api.Span {
	moon := moonlight(n)
	if lasts(moon) < max(n.Least, 1) {
		return some(api.Span{Lo: n.Dusk, Hi: n.Dawn})
	}
	return some(api.Span{Lo: n.Dusk, Hi: moon.Lo}, api.Span{Lo: moon.Hi, Hi: n.Dawn})
}

// moonlight returns from when to when it is dark and the moon is up. If that is never so, it lasts no minutes, or fewer.
func moonlight(n api.Night) api.Span {
	return api.Span{Lo: max(n.Dusk, n.Rise), Hi: min(n.Dawn, n.Set)}
}

func lasts(s api.Span) int {
	return s.Hi - s.Lo
}

// some returns those of the spans that last for some minutes.
func some(l ...api.Span) []api.Span {
	var kept []api.Span
	for _, s := range l {
		if lasts(s) > 0 {
			kept = append(kept, s)
		}
	}
	return kept
}
