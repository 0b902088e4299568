package retort

import "gasworks/api"

// A shift is what a gang has done so far: how the retorts are, the hour of the last stoke, and how many stokes there were in each hour.
type shift struct {
	house api.House
	ovens [api.MaxRetort + 1]api.Oven
	hour  int
	count map[int]int
}

// play does all stokes, or returns the index of the first one that cannot be done, and why.
func play(w api.House, l []api.Stoke) (s shift, index int, e api.Errno) {
	if !validHouse(w) {
		return shift{}, 0, api.ErrArg
	}
	if len(l) > api.MaxStokes {
		return shift{}, 0, api.ErrLong
	}
	s = shift{house: w, count: map[int]int{}}
	for i, k := range l {
		if e := s.attempt(k); e != api.OK {
			return shift{}, i, e
		}
	}
	return s, len(l), api.OK
}

// attempt does a stoke, or returns why it cannot be done.
func (s *shift) attempt(k api.Stoke) (e api.Errno) {
	defer func() {
		// Nothing but need panics in a stoke: what is recovered is an error of api, or nil.
		if why, is := recover().(api.Errno); is {
			e = why
		}
	}()
	s.do(k)
	return api.OK
}

func (s *shift) do(k api.Stoke) {
	need(validStoke(k), api.ErrArg)
	need(k.Hour >= s.hour, api.ErrOrder)
	need(s.count[k.Hour] < s.house.Gang, api.ErrFull)
	then := kinds()[k.Kind](oven(s.ovens[k.Retort]), s.house, k)
	s.ovens[k.Retort] = api.Oven(then)
	s.hour = k.Hour
	s.count[k.Hour]++
}

// take counts one more stoke in the first hour, from this one on, in which the gang can do it, and returns that hour.
func (s *shift) take(hour int) int {
	for s.count[hour] >= s.house.Gang {
		hour++
	}
	s.count[hour]++
	return hour
}

// soonest returns the first hour in which a retort that is hot or baking can be charged. No stoke before the charge gains by waiting, so each of them is done as soon as it can be.
func (s *shift) soonest(retort int) int {
	o := s.ovens[retort]
	hour := max(s.hour, o.Since)
	if o.State == api.Baking {
		hour = s.take(max(s.hour, o.Since+s.house.Least))
	}
	if o.Runs == s.house.Runs {
		hour = s.take(hour) + s.house.Scurf
	}
	return s.take(hour)
}
