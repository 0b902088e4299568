package leak

import "gasworks/api"

// A finding is what a clue says: whether it speaks against a main.
type finding struct{ against func(main int) bool }

func findingOf(c api.Clue) finding {
	if c.Gas {
		return finding{against: func(main int) bool { return !isIn(main, c.Can) }}
	}
	return finding{against: func(main int) bool { return isIn(main, c.Surely) }}
}

// findings returns what can be found at a hole: gas, or none.
func findings(hole api.Clue) [2]finding {
	gas, none := hole, hole
	gas.Gas, none.Gas = true, false
	return [2]finding{findingOf(gas), findingOf(none)}
}

// against returns the indices of the clues that speak against a main.
func against(clues []api.Clue, main int) []int {
	var l []int
	for i, c := range clues {
		if findingOf(c).against(main) {
			l = append(l, i)
		}
	}
	return l
}

// A tally is how many clues speak against each main.
type tally [api.MaxSuspects]int

// with returns the tally after one finding more.
func (t tally) with(f finding) tally {
	for main := range t {
		if f.against(main) {
			t[main]++
		}
	}
	return t
}
