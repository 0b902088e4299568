package lamp

import (
	"iter"

	"gasworks/api"
)

// lamps is a set of lamps, by its number: the bit i stands for the lamp i.
type lamps int

func (s lamps) isEmpty() bool {
	return s == 0
}

func (s lamps) has(lamp int) bool {
	return s>>lamp&1 == 1
}

func (s lamps) with(lamp int) lamps {
	return s | 1<<lamp
}

func (s lamps) without(lamp int) lamps {
	return s &^ (1 << lamp)
}

// each ranges over the lamps of the set, rising.
func (s lamps) each() iter.Seq[int] {
	return func(yield func(int) bool) {
		for lamp := range api.MaxLamps {
			if s.has(lamp) && !yield(lamp) {
				return
			}
		}
	}
}
