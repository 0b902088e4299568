package dial

import "gasworks/api"

// A counter is what a dial can have counted of the gas that went through it.
type counter interface {
	// gas returns the least and the greatest gas of a span with which the dial can have gone on by so much, less than a turn. If there is none, Lo is greater than Hi.
	gas(counted int, s api.Span) api.Span
}

func counterOf(d api.Dial) counter {
	if d.Sticks {
		return sticking{}
	}
	return exact{turn: turns[d.Digits]}
}

// exact counts all gas, but nobody counts its turns.
type exact struct{ turn int }

func (c exact) gas(counted int, s api.Span) api.Span {
	return api.Span{Lo: s.Lo + modulo(counted-s.Lo, c.turn), Hi: s.Hi - modulo(s.Hi-counted, c.turn)}
}

// sticking counts all gas, or less.
type sticking struct{}

func (sticking) gas(counted int, s api.Span) api.Span {
	return api.Span{Lo: max(s.Lo, counted), Hi: s.Hi}
}

// modulo returns the number from 0 to n - 1 that differs from a by a multiple of n.
func modulo(a, n int) int {
	return (a%n + n) % n
}
