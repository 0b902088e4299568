package dial

import "gasworks/api"

// A meter is the dial of a house, and its readings by their hours.
type meter struct {
	dial     api.Dial
	readings []reading
}

// pairs returns the stretches between readings that follow one another.
func (m meter) pairs() []stretch {
	var l []stretch
	c := counterOf(m.dial)
	for i := range len(m.readings) - 1 {
		a, b := m.readings[i], m.readings[i+1]
		s := free(m.dial.Rate, a.hour, b.hour)
		s.gas = c.gas(modulo(b.shows-a.shows, turns[m.dial.Digits]), s.gas)
		l = append(l, s)
	}
	return l
}

// fits tells whether a truth fits the readings: each hour is in one stretch alone, so that each stretch may have any gas that fits it.
func (m meter) fits() bool {
	for _, s := range m.pairs() {
		if s.gas.Lo > s.gas.Hi {
			return false
		}
	}
	return true
}

// stretches returns the stretches of all hours, also before the first reading and after the last one.
func (m meter) stretches() []stretch {
	n := len(m.readings)
	if n == 0 {
		return []stretch{free(m.dial.Rate, 0, api.MaxHour)}
	}
	l := append(m.pairs(), free(m.dial.Rate, 0, m.readings[0].hour))
	return append(l, free(m.dial.Rate, m.readings[n-1].hour, api.MaxHour))
}

// gas returns how much gas went between two hours, if a truth fits the readings.
func (m meter) gas(from, to int) api.Span {
	var parts []api.Span
	for _, s := range m.stretches() {
		parts = append(parts, s.part(from, to))
	}
	return sum(parts...)
}

// without returns the meter without one of its readings.
func (m meter) without(i int) meter {
	// Without room after the first ones append takes new memory, so that the readings of m stay as they are.
	return meter{dial: m.dial, readings: append(m.readings[:i:i], m.readings[i+1:]...)}
}

// suspects returns the hours of the readings without which a truth fits the others.
func (m meter) suspects() []int {
	var l []int
	for i, r := range m.readings {
		if m.without(i).fits() {
			l = append(l, r.hour)
		}
	}
	return l
}

// due returns the last hour for which a reading tells what went since the last one, of which there has to be one: until then the least and the greatest gas differ by less than a turn.
func (m meter) due() int {
	last := m.readings[len(m.readings)-1].hour
	doubt := m.dial.Rate.Hi - m.dial.Rate.Lo
	if doubt == 0 {
		return api.MaxHour
	}
	return min(api.MaxHour, last+(turns[m.dial.Digits]-1)/doubt)
}
