// Package coal is layer 1: it keeps a coal yard, and says which coals, and how much of what they give, some draws can have. See shared/doc/01-coal.md.
package coal

import "gasworks/api"

// Drawn returns the parts of a draw.
func Drawn(y api.Yard, draw int) ([]api.Part, api.Errno) {
	s, e := drawn(y, draw, draw)
	if e != api.OK {
		return nil, e
	}
	return parts(portions(y.Moves, s)), api.OK
}

// Left returns what is left.
func Left(y api.Yard) ([]api.Part, api.Errno) {
	if e := check(y); e != api.OK {
		return nil, e
	}
	return parts(portions(y.Moves, undrawn(y.Moves))), api.OK
}

// Blend returns how much of each coal a draw can have.
func Blend(y api.Yard, draw int) ([]api.Span, api.Errno) {
	s, e := drawn(y, draw, draw)
	if e != api.OK {
		return nil, e
	}
	taken := portions(y.Moves, s)
	blend := make([]api.Span, len(y.Coals))
	for coal := range blend {
		var all ends[int]
		for _, p := range taken {
			all = all.plus(p.share(coal))
		}
		blend[coal] = api.Span{Lo: all.least, Hi: all.greatest}
	}
	return blend, api.OK
}

// Yield returns what some draws can give.
func Yield(y api.Yard, first, last, what int) (api.Span, api.Errno) {
	s, e := drawn(y, first, last)
	if e != api.OK {
		return api.Span{}, e
	}
	if what < api.OfGas || what > api.OfCoke {
		return api.Span{}, api.ErrRange
	}
	poorest, richest := grades(y.Coals, goods()[what])
	var all ends[int]
	for _, p := range portions(y.Moves, s) {
		all = all.plus(ends[int]{least: p.fill(poorest), greatest: p.fill(richest)})
	}
	return api.Span{Lo: all.least, Hi: all.greatest}, api.OK
}

// Can returns whether a draw can have so much of each coal.
func Can(y api.Yard, draw int, tons []int) (bool, api.Errno) {
	s, e := drawn(y, draw, draw)
	if e != api.OK {
		return false, e
	}
	if len(tons) != len(y.Coals) {
		return false, api.ErrRange
	}
	return addUp(tons, s.to-s.from) && fit(portions(y.Moves, s), tons), api.OK
}
