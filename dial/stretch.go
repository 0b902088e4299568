package dial

import "gasworks/api"

// A stretch is the hours from one to before another one, the gas of each of them, and the least and the greatest gas of all of them.
type stretch struct {
	from, to  int
	rate, gas api.Span
}

// free returns a stretch of which nothing is known but the gas of each hour.
func free(rate api.Span, from, to int) stretch {
	return stretch{from: from, to: to, rate: rate, gas: times(rate, to-from)}
}

// part returns how much of the gas of the stretch went between two hours. The rest of it went in the other hours of the stretch, which bounds the part: it is least with the least gas in all, and greatest with the greatest.
func (s stretch) part(from, to int) api.Span {
	inside := max(0, min(to, s.to)-max(from, s.from))
	here, rest := times(s.rate, inside), times(s.rate, s.to-s.from-inside)
	return api.Span{Lo: max(here.Lo, s.gas.Lo-rest.Hi), Hi: min(here.Hi, s.gas.Hi-rest.Lo)}
}

// times returns the gas of so many hours.
func times(rate api.Span, hours int) api.Span {
	return api.Span{Lo: rate.Lo * hours, Hi: rate.Hi * hours}
}

// sum returns what several parts come to, each of which can be anything in its span, whatever the others are.
func sum(parts ...api.Span) api.Span {
	var s api.Span
	for _, p := range parts {
		s.Lo += p.Lo
		s.Hi += p.Hi
	}
	return s
}
