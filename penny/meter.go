package penny

import "gasworks/api"

// A meter is a slot meter with its marks by their hours, which fit one another.
type meter struct {
	slot  api.Slot
	marks []api.Mark
}

// check returns ErrShort if more was used by a mark than was bought by then and there was at first, and ErrFull if more of that was left than the meter holds.
func (m meter) check(mark api.Mark, bought int) api.Errno {
	switch left := m.slot.Start + bought - mark.Used; {
	case left < 0:
		return api.ErrShort
	case left > m.slot.Hold:
		return api.ErrFull
	}
	return api.OK
}

// play returns what pennies buy that are put in in these hours, or the first mark at which that cannot be.
func (m meter) play(hours []int) (bought, hour int, e api.Errno) {
	for p := range m.periods() {
		for _, mark := range p.marks {
			e = m.check(mark, bought+p.buys(p.putIn(hours, mark.Hour)))
			if e != api.OK {
				return 0, mark.Hour, e
			}
		}
		bought += p.buys(p.putIn(hours, p.last))
	}
	return bought, 0, api.OK
}

// credit returns what credit there can be at the end of the hour Now, when the pennies bought so much. Since the last mark any gas can have been used: at least what made room for the pennies, at most all that there was.
func (m meter) credit(bought int) api.Span {
	var last api.Mark
	isRead := false
	if n := len(m.marks); n > 0 {
		last = m.marks[n-1]
		isRead = last.Hour == m.slot.Now
	}
	most := m.slot.Start + bought - last.Used
	if isRead {
		return api.Span{Lo: most, Hi: most}
	}
	return api.Span{Hi: min(most, m.slot.Hold)}
}
