package leak

import "gasworks/api"

func validSearch(s api.Search) bool {
	return isFrom(s.Mains, 1, api.MaxSuspects) && isFrom(s.Wrong, 0, api.MaxWrong) &&
		len(s.Clues) <= api.MaxClues && len(s.Holes) <= api.MaxHoles &&
		validClues(s.Clues, s.Mains) && validClues(s.Holes, s.Mains)
}

func validClues(l []api.Clue, mains int) bool {
	for _, c := range l {
		if !within(c.Can, 1<<mains-1) || !within(c.Surely, c.Can) {
			return false
		}
	}
	return true
}

// within tells whether all of a set are in another one.
func within(set, other int) bool {
	return set&^other == 0
}

func isIn(number, set int) bool {
	return set>>number&1 == 1
}

func isFrom(n, least, most int) bool {
	return least <= n && n <= most
}
