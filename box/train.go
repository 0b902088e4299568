package box

import "gasworks/api"

// check returns the first error of a train and its turns: of a turn that is wrong with its hour, and with OK the number of hours.
func check(t api.Train, turns []bool) (hour int, e api.Errno) {
	if !validTrain(t) {
		return 0, api.ErrArg
	}
	if len(turns) != len(t.Loads) {
		return 0, api.ErrRange
	}
	// Whether a turn is wrong is the same in all courses.
	least, _ := ends(t, turns)
	_, slips := least.follow()
	if len(slips) < len(turns) {
		return len(slips), api.ErrState
	}
	return len(turns), api.OK
}

func validTrain(t api.Train) bool {
	return isFrom(t.Revives, 0, api.MaxRevives) &&
		isFrom(t.Wear, 0, api.MaxRoom) &&
		isFrom(t.Rest, 1, api.MaxRest) &&
		isFrom(t.Work, 0, api.MaxWork) &&
		isFrom(t.Tip, 0, api.MaxWork) &&
		validBoxes(t.Boxes, t.Wear*t.Revives) &&
		validLoads(t.Loads)
}

// validBoxes needs each box to have some room even when it is worn most.
func validBoxes(boxes []api.Box, worn int) bool {
	if !isFrom(len(boxes), 1, api.MaxBoxes) {
		return false
	}
	for _, b := range boxes {
		if !isFrom(b.Room, 1, api.MaxRoom) || !isFrom(b.Rate, 1, api.MaxRoom) || !isFrom(b.Foul, 0, b.Room) || worn >= b.Room {
			return false
		}
	}
	return true
}

func validLoads(loads []api.Span) bool {
	if len(loads) > api.MaxLoads {
		return false
	}
	for _, s := range loads {
		if s.Lo > s.Hi || !isFrom(s.Lo, 0, api.MaxRoom) || !isFrom(s.Hi, 0, api.MaxRoom) {
			return false
		}
	}
	return true
}

func isFrom(n, least, most int) bool {
	return least <= n && n <= most
}
