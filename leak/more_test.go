package leak_test

import (
	"slices"
	"testing"

	"gasworks/api"
	"gasworks/leak"
)

// someSearch returns a search to which another clue and another hole can be added.
func someSearch(d *dice) api.Search {
	return anySearch(d, 1+d.roll(api.MaxSuspects), d.roll(api.MaxHoles))
}

// results returns what all functions say of a search, but for Against.
func results(s api.Search) [8]int {
	set, e := leak.Suspects(s)
	hole, left, e2 := leak.Next(s)
	first, holes, e3 := leak.Fewest(s)
	return [8]int{set, int(e), hole, left, int(e2), first, holes, int(e3)}
}

// wantFewer checks that the suspects of one search are suspect in another one too, and returns whether there are less.
func wantFewer(t *testing.T, s, other api.Search) bool {
	t.Helper()
	few, _ := leak.Suspects(s)
	many, _ := leak.Suspects(other)
	if few&^many != 0 {
		t.Errorf("Suspects of %v = %b; of %v = %b", s, few, other, many)
	}
	return few != many
}

// TestMoreCluesAndMoreWrong checks that a clue more makes no main suspect, and that a greater Wrong makes none not so.
func TestMoreCluesAndMoreWrong(t *testing.T) {
	d := newDice(4)
	clues, wrongs := 0, 0
	for range 1000 {
		s := someSearch(d)
		more := s
		more.Clues = slices.Insert(slices.Clone(s.Clues), d.roll(len(s.Clues)+1), anyClue(d, s.Mains))
		if wantFewer(t, more, s) {
			clues++
		}
		if s.Wrong == api.MaxWrong {
			continue
		}
		more = s
		more.Wrong++
		if wantFewer(t, s, more) {
			wrongs++
		}
	}
	if min(clues, wrongs) < 200 {
		t.Errorf("only %d clues and %d numbers of wrong ones made a difference", clues, wrongs)
	}
}

// TestMoreHoles checks that with one hole more, wherever it is in the list, it takes no more of them, and that no more mains are left.
func TestMoreHoles(t *testing.T) {
	d := newDice(5)
	better, halved := 0, 0
	for range 4000 {
		s := anySearch(d, 1+d.roll(api.MaxSuspects), d.roll(6))
		more := s
		more.Holes = slices.Insert(slices.Clone(s.Holes), d.roll(len(s.Holes)+1), anyClue(d, s.Mains))
		_, a, e := leak.Fewest(s)
		_, b, e2 := leak.Fewest(more)
		if e == api.OK && (e2 != api.OK || b > a) || (e == api.ErrNone || e == api.ErrState) && e2 != e {
			t.Errorf("Fewest of %v = %d, error %d; with a hole more, %v, %d, error %d", s, a, e, more.Holes, b, e2)
		}
		if e != e2 || a != b {
			better++
		}
		_, a, e = leak.Next(s)
		_, b, e2 = leak.Next(more)
		if e == api.OK && (e2 != api.OK || b > a) {
			t.Errorf("Next of %v = %d, error %d; with a hole more, %v, %d, error %d", s, a, e, more.Holes, b, e2)
		}
		if e == api.OK && a != b {
			halved++
		}
	}
	if min(better, halved) < 50 {
		t.Errorf("only %d holes made a difference to Fewest, and %d to Next", better, halved)
	}
}

// TestClueTwice checks that one that is there twice says nothing new if none can be wrong, but that it can if some can.
func TestClueTwice(t *testing.T) {
	d := newDice(6)
	differ := 0
	for range 1000 {
		s := someSearch(d)
		if len(s.Clues) == 0 {
			continue
		}
		twice := s
		twice.Clues = slices.Insert(slices.Clone(s.Clues), d.roll(len(s.Clues)+1), s.Clues[d.roll(len(s.Clues))])
		a, b := results(s), results(twice)
		if s.Wrong == 0 && a != b {
			t.Errorf("the results of %v are %v, and with a clue twice %v", s, a, b)
		}
		if a != b {
			differ++
		}
	}
	if differ < 50 {
		t.Errorf("only %d clues that were there twice made a difference", differ)
	}
}

// shuffled returns the numbers below n in any order.
func shuffled(d *dice, n int) []int {
	l := make([]int, n)
	for i := range l {
		j := d.roll(i + 1)
		l[i] = l[j]
		l[j] = i
	}
	return l
}

// TestOrderOfClues checks that the order of clues makes no difference, but for their indices.
func TestOrderOfClues(t *testing.T) {
	d := newDice(8)
	for range 600 {
		s := someSearch(d)
		order := shuffled(d, len(s.Clues))
		other := s
		other.Clues = nil
		for _, i := range order {
			other.Clues = append(other.Clues, s.Clues[i])
		}
		if a, b := results(s), results(other); a != b {
			t.Errorf("the results of %v are %v, and in the order %v %v", s, a, order, b)
		}
		for main := range s.Mains {
			want, _ := leak.Against(s, main)
			l, _ := leak.Against(other, main)
			if !slices.IsSorted(l) {
				t.Errorf("Against of %v, %d = %v", other, main, l)
			}
			for k, i := range l {
				l[k] = order[i]
			}
			slices.Sort(l)
			if !slices.Equal(l, want) {
				t.Errorf("Against of %v, %d = %v, and in the order %v %v", s, main, want, order, l)
			}
		}
	}
}

// turned returns a set in which each main has another number.
func turned(set int, numbers []int) int {
	other := 0
	for main, number := range numbers {
		other |= set >> main & 1 << number
	}
	return other
}

func turnedClues(l []api.Clue, numbers []int) []api.Clue {
	var other []api.Clue
	for _, c := range l {
		c.Surely, c.Can = turned(c.Surely, numbers), turned(c.Can, numbers)
		other = append(other, c)
	}
	return other
}

// TestOrderOfMains checks that the numbers of mains make no difference, if all sets are turned with them.
func TestOrderOfMains(t *testing.T) {
	d := newDice(9)
	for range 600 {
		s := someSearch(d)
		numbers := shuffled(d, s.Mains)
		other := s
		other.Clues, other.Holes = turnedClues(s.Clues, numbers), turnedClues(s.Holes, numbers)
		a, b := results(s), results(other)
		a[0] = turned(a[0], numbers)
		if a != b {
			t.Errorf("the results of %v are %v, and with the numbers %v %v", s, a, numbers, b)
		}
		for main, number := range numbers {
			want, _ := leak.Against(s, main)
			wantAgainst(t, "turned", other, number, want...)
		}
	}
}
