package penny

import "gasworks/api"

func validSlot(s api.Slot) bool {
	if !isFrom(s.Hold, 1, api.MaxHold) || !isFrom(s.Start, 0, s.Hold) {
		return false
	}
	if !isFrom(s.Coins, 0, api.MaxCoins) || !isFrom(s.Now, 0, api.MaxHour) {
		return false
	}
	return validTariffs(s) && validMarks(s)
}

func validTariffs(s api.Slot) bool {
	if !isFrom(len(s.Tariffs), 1, api.MaxTariffs) || s.Tariffs[0].From != 0 {
		return false
	}
	for i, t := range s.Tariffs {
		if i > 0 && t.From <= s.Tariffs[i-1].From {
			return false
		}
		if t.From > s.Now || !isFrom(t.Feet, 1, s.Hold) {
			return false
		}
	}
	return true
}

func validMarks(s api.Slot) bool {
	if len(s.Marks) > api.MaxMarks {
		return false
	}
	for _, m := range s.Marks {
		if !isFrom(m.Hour, 0, s.Now) || !isFrom(m.Used, 0, api.MaxGas) {
			return false
		}
	}
	return true
}

// validHours tells whether these are hours of all pennies.
func validHours(s api.Slot, hours []int) bool {
	if len(hours) != s.Coins {
		return false
	}
	for _, hour := range hours {
		if !isFrom(hour, 0, s.Now) {
			return false
		}
	}
	return true
}

func isFrom(n, least, most int) bool {
	return least <= n && n <= most
}
