package coal

import "gasworks/api"

// check returns the errors of a yard that every function returns first.
func check(y api.Yard) api.Errno {
	if !validCoals(y.Coals) || !validMoves(y.Moves, len(y.Coals)) {
		return api.ErrArg
	}
	if short(y.Moves) {
		return api.ErrShort
	}
	return api.OK
}

func validCoals(coals []api.Coal) bool {
	if len(coals) < 1 || len(coals) > api.MaxCoals {
		return false
	}
	for _, c := range coals {
		for _, of := range goods() {
			if s := of(c); s.Lo < 0 || s.Lo > s.Hi || s.Hi > api.MaxYield {
				return false
			}
		}
	}
	return true
}

func validMoves(moves []api.Move, coals int) bool {
	if len(moves) > api.MaxMoves {
		return false
	}
	hour, valid := 0, 0
moves:
	for _, m := range moves {
		switch {
		case m.Hour < hour || m.Hour > api.MaxHour:
			break moves
		case m.Coal < api.Drawn || m.Coal >= coals:
			break moves
		case m.Tons < 1 || m.Tons > api.MaxTons:
			break moves
		}
		hour = m.Hour
		valid++
	}
	return valid == len(moves)
}

// short tells whether a draw takes more than is left when it is made.
func short(moves []api.Move) bool {
	left := 0
	for _, m := range moves {
		if m.Coal != api.Drawn {
			left += m.Tons
			continue
		}
		left -= m.Tons
		if left < 0 {
			return true
		}
	}
	return false
}
