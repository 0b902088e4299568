package leak_test

import (
	"slices"
	"testing"

	"gasworks/api"
	"gasworks/leak"
)

// A dice rolls the same numbers in each run of the tests.
type dice struct{ at uint64 }

func newDice(seed uint64) *dice { return &dice{at: seed} }

func (d *dice) roll(n int) int {
	d.at = d.at*6364136223846793005 + 1442695040888963407
	return int(d.at >> 33 % uint64(n))
}

// anyClue returns a clue with any sets: in every second one they are the same.
func anyClue(d *dice, mains int) api.Clue {
	c := api.Clue{Gas: d.roll(2) == 0}
	doubts := d.roll(2)
	for main := range mains {
		switch d.roll(6 + doubts) {
		case 0, 1, 2:
			c.Surely |= 1 << main
			c.Can |= 1 << main
		case 6:
			c.Can |= 1 << main
		}
	}
	return c
}

// anySearch returns a search with any sets, and a leak that most of its clues tell the truth about.
func anySearch(d *dice, mains, holes int) api.Search {
	s := fresh(mains, d.roll(api.MaxWrong+1))
	main := d.roll(mains)
	for range d.roll(2+s.Wrong) + d.roll(3+2*s.Wrong) {
		s.Clues = append(s.Clues, found(anyClue(d, mains), main, d.roll(4) == 0))
	}
	for range holes {
		s.Holes = append(s.Holes, anyClue(d, mains))
	}
	return s
}

// found returns a clue with what is found, if the leak is in a main; or with what cannot be, if it is wrong, and there is such a thing.
func found(c api.Clue, main int, wrong bool) api.Clue {
	if speaks(c, main) != wrong {
		c.Gas = !c.Gas
	}
	return c
}

// speaks tells whether a clue speaks against a main: whether what was found could not be, if the leak were there.
func speaks(c api.Clue, main int) bool {
	surely, can := c.Surely&(1<<main) != 0, c.Can&(1<<main) != 0
	couldBe := can
	if !c.Gas {
		couldBe = !surely
	}
	return !couldBe
}

// suspects returns the suspect mains, listed.
func suspects(s api.Search) []int {
	var l []int
	for main := range s.Mains {
		n := 0
		for _, c := range s.Clues {
			if speaks(c, main) {
				n++
			}
		}
		if n <= s.Wrong {
			l = append(l, main)
		}
	}
	return l
}

// barred returns the search after a hole was barred.
func barred(s api.Search, hole int, gas bool) api.Search {
	c := s.Holes[hole]
	c.Gas = gas
	s.Clues = append(slices.Clone(s.Clues), c)
	s.Holes = slices.Delete(slices.Clone(s.Holes), hole, hole+1)
	return s
}

// isEnough tells whether the leak is known after so many holes, if the right ones are barred.
func isEnough(s api.Search, holes int) bool {
	if len(suspects(s)) <= 1 {
		return true
	}
	for hole := range s.Holes {
		if holes > 0 && begins(s, hole, holes) {
			return true
		}
	}
	return false
}

// begins tells whether so many holes are enough, if this one is barred first.
func begins(s api.Search, hole, holes int) bool {
	return isEnough(barred(s, hole, true), holes-1) && isEnough(barred(s, hole, false), holes-1)
}

// fewest tries all ways to bar holes, with more and more holes.
func fewest(s api.Search) (hole, holes int, e api.Errno) {
	switch len(suspects(s)) {
	case 0:
		return 0, 0, api.ErrNone
	case 1:
		return 0, 0, api.ErrState
	}
	for holes := 1; holes <= api.MaxBars; holes++ {
		for hole := range s.Holes {
			if begins(s, hole, holes) {
				return hole, holes, api.OK
			}
		}
	}
	return 0, 0, api.ErrLong
}

// next counts what each hole leaves.
func next(s api.Search) (hole, left int, e api.Errno) {
	switch len(suspects(s)) {
	case 0:
		return 0, 0, api.ErrNone
	case 1:
		return 0, 0, api.ErrState
	}
	if len(s.Holes) == 0 {
		return 0, 0, api.ErrRange
	}
	left = s.Mains + 1
	for i := range s.Holes {
		n := max(len(suspects(barred(s, i, true))), len(suspects(barred(s, i, false))))
		if n < left {
			hole, left = i, n
		}
	}
	return hole, left, api.OK
}

// TestAllWays holds all functions against a listing of all ways to bar holes.
func TestAllWays(t *testing.T) {
	d := newDice(1)
	errors, lengths := map[api.Errno]int{}, map[int]int{}
	for range 4000 {
		s := anySearch(d, 1+d.roll(api.MaxSuspects), d.roll(7))
		l := suspects(s)
		e := api.OK
		if len(l) == 0 {
			e = api.ErrNone
		}
		wantSuspects(t, "all ways", s, set(l...), e)
		for main := range s.Mains {
			var against []int
			for i, c := range s.Clues {
				if speaks(c, main) {
					against = append(against, i)
				}
			}
			wantAgainst(t, "all ways", s, main, against...)
		}
		hole, left, e := next(s)
		wantNext(t, "all ways", s, hole, left, e)
		hole, holes, e := fewest(s)
		wantFewest(t, "all ways", s, hole, holes, e)
		errors[e]++
		lengths[holes]++
	}
	if min(errors[api.OK], errors[api.ErrNone], errors[api.ErrState], errors[api.ErrLong]) < 100 || min(lengths[1], lengths[2], lengths[3], lengths[4]) < 20 {
		t.Errorf("the errors were %v, the numbers of holes %v", errors, lengths)
	}
}

// TestFollowFewest bars holes as Fewest says, and checks that whatever is found, what is left to be barred goes down by one at least each time.
func TestFollowFewest(t *testing.T) {
	d := newDice(2)
	lengths := map[int]int{}
	for range 1000 {
		s := anySearch(d, 1+d.roll(api.MaxSuspects), d.roll(api.MaxHoles+1))
		if hole, holes, e := leak.Fewest(s); e == api.OK {
			lengths[holes]++
			follow(t, s, hole, holes)
		}
	}
	if min(lengths[1], lengths[2], lengths[3], lengths[4]) < 20 {
		t.Errorf("the numbers of holes were %v", lengths)
	}
}

func follow(t *testing.T, s api.Search, hole, holes int) {
	t.Helper()
	for _, gas := range []bool{false, true} {
		after := barred(s, hole, gas)
		next, left, e := leak.Fewest(after)
		switch {
		case e == api.OK && left < holes:
			follow(t, after, next, left)
		case e != api.ErrNone && e != api.ErrState:
			t.Errorf("Fewest of %v = %d, error %d; before the hole it was %d", after, left, e, holes)
		}
	}
}

// TestTrueLeak hides a leak, with as many clues that are wrong as can be, and checks that it is suspect all the time, and found with so many holes as Fewest says.
func TestTrueLeak(t *testing.T) {
	d := newDice(3)
	lengths := map[int]int{}
	for range 3000 {
		s := anySearch(d, 1+d.roll(api.MaxSuspects), d.roll(api.MaxHoles+1))
		main, lies := d.roll(s.Mains), s.Wrong
		look := func(c api.Clue) api.Clue {
			c.Gas = d.roll(2) == 0
			c = found(c, main, lies > 0 && d.roll(3) == 0)
			if speaks(c, main) {
				lies--
			}
			return c
		}
		for i, c := range s.Clues {
			s.Clues[i] = look(c)
		}
		wantSuspect(t, s, main)
		hole, holes, e := leak.Fewest(s)
		lengths[holes]++
		for left := holes; e == api.OK; left-- {
			if left == 0 {
				t.Errorf("the leak in the main %d is not known after %d holes: %v", main, holes, s)
				break
			}
			s = barred(s, hole, look(s.Holes[hole]).Gas)
			wantSuspect(t, s, main)
			hole, _, e = leak.Fewest(s)
		}
		if set, _ := leak.Suspects(s); holes > 0 && set != 1<<main {
			t.Errorf("the leak is in the main %d, but %b are suspect of %v", main, set, s)
		}
	}
	if min(lengths[1], lengths[2], lengths[3], lengths[4]) < 20 {
		t.Errorf("the numbers of holes were %v", lengths)
	}
}

func wantSuspect(t *testing.T, s api.Search, main int) {
	t.Helper()
	if set, e := leak.Suspects(s); e != api.OK || set>>main&1 == 0 {
		t.Errorf("Suspects of %v = %b, error %d, without the main %d", s, set, e, main)
	}
	if l, e := leak.Against(s, main); e != api.OK || len(l) > s.Wrong {
		t.Errorf("Against of %v, %d = %v, error %d", s, main, l, e)
	}
}
