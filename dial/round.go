package dial

import "gasworks/api"

// turns is the turn of a dial with so many digits.
var turns = [api.MaxDigits + 1]int{1, 10, 100, 1000, 10_000, 100_000, 1_000_000}

func validRound(r api.Round) bool {
	if !isFrom(len(r.Dials), 1, api.MaxDials) || len(r.Cards) > api.MaxCards {
		return false
	}
	for _, d := range r.Dials {
		if !validDial(d) {
			return false
		}
	}
	for _, c := range r.Cards {
		if !validCard(c, r.Dials) {
			return false
		}
	}
	return true
}

func validDial(d api.Dial) bool {
	return isFrom(d.Digits, 1, api.MaxDigits) && isFrom(d.Rate.Lo, 0, d.Rate.Hi) && d.Rate.Hi <= api.MaxRate
}

func validCard(c api.Card, dials []api.Dial) bool {
	return isFrom(c.House, 0, len(dials)-1) && isFrom(c.Hour, 0, api.MaxHour) && isFrom(c.Shows, 0, turns[dials[c.House].Digits]-1)
}

func isFrom(n, least, most int) bool {
	return least <= n && n <= most
}
