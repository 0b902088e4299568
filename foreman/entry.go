package foreman

import (
	"cmp"
	"slices"

	"gasworks/api"
)

// An entry is a move or a stoke.
type entry interface {
	hour() int
}

type move api.Move

func (m move) hour() int { return m.Hour }

type stoke api.Stoke

func (k stoke) hour() int { return k.Hour }

func (n figures) arrive() entry { return move{Hour: n[0], Coal: n[1], Tons: n[2]} }

func (n figures) draw() entry { return move{Hour: n[0], Coal: api.Drawn, Tons: n[1]} }

func (n figures) charge() entry {
	return stoke{Hour: n[0], Retort: n[1], Kind: api.Charge, Tons: n[2]}
}

func (n figures) empty() entry { return stoke{Hour: n[0], Retort: n[1], Kind: api.Empty} }

func (n figures) scour() entry { return stoke{Hour: n[0], Retort: n[1], Kind: api.Scour} }

func (n figures) letOut() entry { return stoke{Hour: n[0], Retort: n[1], Kind: api.LetOut} }

func (n figures) lightUp() entry { return stoke{Hour: n[0], Retort: n[1], Kind: api.LightUp} }

// A slip is an entry with its number.
type slip struct {
	number int
	entry  entry
}

func (s slip) hour() int { return s.entry.hour() }

// books returns the books of slips that are given by their numbers.
func books(slips []slip) api.Books {
	var b api.Books
	for _, s := range sorted(slips, slip.hour) {
		switch x := s.entry.(type) {
		case move:
			b.Moves = append(b.Moves, api.Move(x))
		case stoke:
			b.Stokes = append(b.Stokes, api.Stoke(x))
		}
	}
	return b
}

// sorted returns a list in the order of what by tells; elements of which it tells the same stay in their order.
func sorted[T any, K cmp.Ordered](l []T, by func(T) K) []T {
	l = slices.Clone(l)
	slices.SortStableFunc(l, func(a, b T) int { return cmp.Compare(by(a), by(b)) })
	return l
}
