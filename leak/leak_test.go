package leak_test

import (
	"slices"
	"testing"

	"gasworks/api"
	"gasworks/leak"
)

// set returns the set of some mains, by bits.
func set(mains ...int) int {
	bits := 0
	for _, m := range mains {
		bits |= 1 << m
	}
	return bits
}

func gas(surely, can int) api.Clue { return api.Clue{Gas: true, Surely: surely, Can: can} }

// noGas returns a clue that there was no gas, or a hole.
func noGas(surely, can int) api.Clue { return api.Clue{Surely: surely, Can: can} }

// at returns a hole that surely tells whether the leak is in one of some mains.
func at(mains ...int) api.Clue { return noGas(set(mains...), set(mains...)) }

// example returns the search of the chapter's examples.
func example() api.Search {
	return api.Search{
		Mains: 6,
		Clues: []api.Clue{gas(set(1, 2), set(1, 2, 3, 4)), noGas(set(1), set(0, 1, 2))},
		Holes: []api.Clue{at(2), at(2, 3), noGas(0, set(3))},
	}
}

// changed returns the search of the examples after changes.
func changed(changes ...func(s *api.Search)) api.Search {
	s := example()
	for _, change := range changes {
		change(&s)
	}
	return s
}

func withWrong(wrong int) func(s *api.Search) {
	return func(s *api.Search) { s.Wrong = wrong }
}

func withClues(l ...api.Clue) func(s *api.Search) {
	return func(s *api.Search) { s.Clues = append(s.Clues, l...) }
}

func withHoles(l ...api.Clue) func(s *api.Search) {
	return func(s *api.Search) { s.Holes = l }
}

// fresh returns a search without clues.
func fresh(mains, wrong int, holes ...api.Clue) api.Search {
	return api.Search{Mains: mains, Wrong: wrong, Holes: holes}
}

func wantSuspects(t *testing.T, name string, s api.Search, want int, e api.Errno) {
	t.Helper()
	if got, e2 := leak.Suspects(s); got != want || e2 != e {
		t.Errorf("%s: Suspects of %v = %b, error %d; want %b, error %d", name, s, got, e2, want, e)
	}
}

func wantAgainst(t *testing.T, name string, s api.Search, main int, want ...int) {
	t.Helper()
	if l, e := leak.Against(s, main); e != api.OK || !slices.Equal(l, want) {
		t.Errorf("%s: Against of %v, %d = %v, error %d; want %v", name, s, main, l, e, want)
	}
}

func wantNotAgainst(t *testing.T, name string, s api.Search, main int, want api.Errno) {
	t.Helper()
	if l, e := leak.Against(s, main); e != want || len(l) != 0 {
		t.Errorf("%s: Against of %v, %d = %v, error %d; want error %d", name, s, main, l, e, want)
	}
}

func wantNext(t *testing.T, name string, s api.Search, hole, left int, e api.Errno) {
	t.Helper()
	if h, n, e2 := leak.Next(s); h != hole || n != left || e2 != e {
		t.Errorf("%s: Next of %v = %d, %d, error %d; want %d, %d, error %d", name, s, h, n, e2, hole, left, e)
	}
}

func wantFewest(t *testing.T, name string, s api.Search, hole, holes int, e api.Errno) {
	t.Helper()
	if h, n, e2 := leak.Fewest(s); h != hole || n != holes || e2 != e {
		t.Errorf("%s: Fewest of %v = %d, %d, error %d; want %d, %d, error %d", name, s, h, n, e2, hole, holes, e)
	}
}

func TestExamples(t *testing.T) {
	s := example()
	wantSuspects(t, "the example", s, 28, api.OK)
	wantAgainst(t, "the example", s, 0, 0)
	wantAgainst(t, "the example", s, 1, 1)
	wantAgainst(t, "the example", s, 3)
	wantNext(t, "the example", s, 0, 2, api.OK)
	wantFewest(t, "the example", s, 0, 2, api.OK)
	s = changed(withWrong(1))
	wantSuspects(t, "one can be wrong", s, 63, api.OK)
	wantNext(t, "one can be wrong", s, 0, 6, api.OK)
	s = example()
	s.Clues = s.Clues[:1]
	wantSuspects(t, "the first clue alone", s, 30, api.OK)
	wantSuspects(t, "a third clue", changed(withClues(noGas(set(2, 3, 4), set(2, 3, 4)))), 0, api.ErrNone)
}

// TestWhatClueSays checks which of the two sets a clue speaks with, one main of each kind: 0 is in none of them, 1 in Can alone, 2 in both.
func TestWhatClueSays(t *testing.T) {
	for _, x := range []struct {
		name     string
		clue     api.Clue
		suspects int
		against  []int
	}{
		{"gas", gas(set(2), set(1, 2)), set(1, 2), []int{0}},
		{"no gas", noGas(set(2), set(1, 2)), set(0, 1), []int{2}},
		{"gas from all", gas(0, set(0, 1, 2)), set(0, 1, 2), nil},
		{"no gas, that is never sure", noGas(0, set(0, 1, 2)), set(0, 1, 2), nil},
	} {
		s := fresh(3, 0)
		s.Clues = []api.Clue{x.clue}
		wantSuspects(t, x.name, s, x.suspects, api.OK)
		for main := range 3 {
			if slices.Contains(x.against, main) {
				wantAgainst(t, x.name, s, main, 0)
			} else {
				wantAgainst(t, x.name, s, main)
			}
		}
	}
	s := fresh(3, 0)
	s.Clues = []api.Clue{gas(0, 0)}
	wantSuspects(t, "gas from none", s, 0, api.ErrNone)
	s.Clues = []api.Clue{noGas(7, 7)}
	wantSuspects(t, "no gas, but surely from all", s, 0, api.ErrNone)
}

// TestWrongClues checks a main against which one clue more speaks each time.
func TestWrongClues(t *testing.T) {
	for wrong := range api.MaxWrong + 1 {
		s := fresh(3, wrong)
		var against []int
		for len(against) < api.MaxWrong+3 {
			want := set(0, 1, 2)
			if len(against) > wrong {
				want = set(0, 2)
			}
			wantSuspects(t, "clues against the main 1", s, want, api.OK)
			wantAgainst(t, "clues against the main 1", s, 1, against...)
			against = append(against, len(s.Clues))
			s.Clues = append(s.Clues, at(1), gas(0, set(0, 1, 2)))
		}
	}
}

func TestGreatestSearches(t *testing.T) {
	all := 1<<api.MaxSuspects - 1
	s := fresh(api.MaxSuspects, api.MaxWrong, slices.Repeat([]api.Clue{at(11)}, api.MaxHoles)...)
	wantSuspects(t, "all mains", s, all, api.OK)
	s.Clues = slices.Repeat([]api.Clue{at(11)}, api.MaxClues)
	wantSuspects(t, "all clues against one", s, all&^(1<<11), api.OK)
	numbers := make([]int, api.MaxClues)
	for i := range numbers {
		numbers[i] = i
	}
	wantAgainst(t, "all clues against one", s, 11, numbers...)
	wantNext(t, "all clues against one", s, 0, 11, api.OK)
	wantFewest(t, "all clues against one", s, 0, 0, api.ErrLong)
	wantSuspects(t, "one main", fresh(1, 0), 1, api.OK)
	s = fresh(2, 0, at(0))
	s.Clues = slices.Repeat([]api.Clue{gas(0, 3)}, api.MaxClues)
	wantNext(t, "a hole after all clues", s, 0, 1, api.OK)
	wantFewest(t, "a hole after all clues", s, 0, 1, api.OK)
}

// TestNextHole checks which hole halves best, and what it leaves by the worse of what is found.
func TestNextHole(t *testing.T) {
	wantNext(t, "the last one halves best", fresh(8, 0, at(0), at(0, 1), at(0, 1, 2), at(0, 1, 2, 3)), 3, 4, api.OK)
	wantNext(t, "both halve the same", fresh(8, 0, at(0), at(4, 5, 6, 7), at(0, 1, 2, 3)), 1, 4, api.OK)
	wantNext(t, "gas leaves more", fresh(5, 0, at(0, 1, 2, 3), at(0, 1, 2)), 1, 3, api.OK)
	wantNext(t, "gas leaves less", fresh(5, 0, at(0), at(0, 1)), 1, 3, api.OK)
	wantNext(t, "none says anything", fresh(3, 0, noGas(0, 7), noGas(0, 7)), 0, 3, api.OK)
	wantNext(t, "some are in doubt", fresh(4, 0, noGas(set(0), set(0, 1, 2)), noGas(set(0), set(0, 1))), 0, 3, api.OK)
	wantNext(t, "one leaves none or all", fresh(3, 0, at(0, 1, 2), at(0)), 1, 2, api.OK)
	wantNext(t, "only suspects count", changed(withHoles(at(0, 1, 5), at(3))), 1, 2, api.OK)
	wantNext(t, "one finding is not enough", fresh(4, 1, at(0, 1), at(0)), 0, 4, api.OK)
	s := fresh(4, 1, at(0), at(0, 1))
	s.Clues = []api.Clue{at(0), at(1), gas(set(1, 3), set(1, 3))} // two speak against 0, one against 1, one against 2
	wantSuspects(t, "besides the clues that there are", s, set(1, 2, 3), api.OK)
	wantNext(t, "besides the clues that there are", s, 1, 2, api.OK)
	wantNext(t, "no hole", fresh(2, 0), 0, 0, api.ErrRange)
	wantNext(t, "as many holes as can be", fresh(12, 0, slices.Repeat([]api.Clue{at(3)}, api.MaxHoles)...), 0, 11, api.OK)
}

// TestFewestHoles checks how many holes it takes, and with which one to begin.
func TestFewestHoles(t *testing.T) {
	wantFewest(t, "one hole", fresh(2, 0, at(0)), 0, 1, api.OK)
	wantFewest(t, "the second one is enough", fresh(2, 0, at(0, 1), at(0)), 1, 1, api.OK)
	wantFewest(t, "both are enough", fresh(2, 0, noGas(0, 3), at(1), at(0)), 1, 1, api.OK)
	halves := []api.Clue{at(0, 1, 2, 3), at(0, 1, 4, 5), at(0, 2, 4, 6)}
	wantFewest(t, "three halve eight", fresh(8, 0, halves...), 0, 3, api.OK)
	wantFewest(t, "one that does not comes first", fresh(8, 0, append([]api.Clue{at(0)}, halves...)...), 1, 3, api.OK)
	wantFewest(t, "two do not halve eight", fresh(8, 0, halves[:2]...), 0, 0, api.ErrLong)
	wantFewest(t, "four halve twelve", fresh(12, 0, at(8, 9, 10, 11), at(4, 5, 6, 7), at(2, 3, 6, 7, 10, 11), at(1, 3, 5, 7, 9, 11)), 0, 4, api.OK)
	wantFewest(t, "as many as can be barred", fresh(5, 0, at(0), at(1), at(2), at(3)), 0, 4, api.OK)
	wantFewest(t, "one more", fresh(6, 0, at(0), at(1), at(2), at(3), at(4)), 0, 0, api.ErrLong)
	wantFewest(t, "no hole", fresh(2, 0), 0, 0, api.ErrLong)
	wantFewest(t, "none says anything", fresh(2, 0, noGas(0, 3), at(0, 1)), 0, 0, api.ErrLong)
	wantFewest(t, "gas alone says it", fresh(2, 0, noGas(0, 1)), 0, 0, api.ErrLong)
}

// TestFewestIsNotNext checks a search in which the hole that halves best is not the one to begin with. The other four tell all mains apart; after the first one, five mains of which each of the four tells only one from the rest can be left.
func TestFewestIsNotNext(t *testing.T) {
	s := fresh(12, 0, at(0, 1, 2, 3, 4, 5), at(1, 5, 6, 10, 11), at(2, 7, 8, 10, 11), at(3, 5, 7, 9, 10), at(4, 6, 8, 9, 11))
	wantNext(t, "the best half", s, 0, 6, api.OK)
	wantFewest(t, "the fewest", s, 1, 4, api.OK)
}

// TestFewestWithWrongClues checks that a hole is not barred twice, and that of two that say the same both can be.
func TestFewestWithWrongClues(t *testing.T) {
	wantFewest(t, "one hole", fresh(2, 1, at(0)), 0, 0, api.ErrLong)
	wantFewest(t, "two alike", fresh(2, 1, at(0), at(0)), 0, 0, api.ErrLong)
	wantFewest(t, "three alike", fresh(2, 1, at(0), at(0), at(0)), 0, 3, api.OK)
	wantFewest(t, "two can be wrong", fresh(2, 2, at(0), at(0), at(0), at(0), at(0)), 0, 0, api.ErrLong)
	s := fresh(2, 1, at(0), at(0))
	s.Clues = []api.Clue{at(0)}
	wantFewest(t, "one was found", s, 0, 2, api.OK)
	s.Clues = []api.Clue{at(0), at(1)}
	wantFewest(t, "one against each was found", s, 0, 1, api.OK)
	s = fresh(2, 3, slices.Repeat([]api.Clue{at(0)}, 12)...)
	s.Clues = []api.Clue{at(0), at(0), at(0), at(1), at(1)}
	wantFewest(t, "three can be wrong", s, 0, 2, api.OK)
}

// TestGasOfHoles checks that the Gas of a hole is not looked at.
func TestGasOfHoles(t *testing.T) {
	s := example()
	for i := range s.Holes {
		s.Holes[i].Gas = true
		wantNext(t, "a hole with gas", s, 0, 2, api.OK)
		wantFewest(t, "a hole with gas", s, 0, 2, api.OK)
	}
	wantFewest(t, "holes with gas", fresh(2, 1, gas(1, 1), at(0), gas(1, 1)), 0, 3, api.OK)
}

// TestMemory checks that arguments stay as they are, and that no call changes what another one returns.
func TestMemory(t *testing.T) {
	s := changed(withClues(at(0), at(0)))
	s.Clues = append(make([]api.Clue, 0, 20), s.Clues...)
	s.Holes = append(make([]api.Clue, 0, 12), s.Holes...)
	clues, holes := slices.Clone(s.Clues[:20]), slices.Clone(s.Holes[:12])
	for range 3 {
		wantSuspects(t, "memory", s, 28, api.OK)
		wantNext(t, "memory", s, 0, 2, api.OK)
		wantFewest(t, "memory", s, 0, 2, api.OK)
		l, _ := leak.Against(s, 0)
		again, _ := leak.Against(s, 0)
		if !slices.Equal(s.Clues[:20], clues) || !slices.Equal(s.Holes[:12], holes) || s.Mains != 6 || s.Wrong != 0 {
			t.Fatalf("the search is %v", s)
		}
		clear(l[:cap(l)])
		if !slices.Equal(again, []int{0, 2, 3}) {
			t.Fatalf("the result is %v", again)
		}
	}
}
