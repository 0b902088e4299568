package lamp_test

import (
	"math"
	"slices"
	"testing"

	"gasworks/api"
	"gasworks/lamp"
)

func wantNightNotValid(t *testing.T, name string, n api.Night) {
	t.Helper()
	if l, e := lamp.Burns(n); len(l) != 0 || e != api.ErrArg {
		t.Errorf("%s: Burns of %v = %v, error %d; want error %d", name, n, l, e, api.ErrArg)
	}
}

// wantNotValid checks that all functions refuse a town, whatever else is asked.
func wantNotValid(t *testing.T, name string, w api.Town) {
	t.Helper()
	for _, n := range []int{0, 1, 2, -1, 99, math.MinInt, math.MaxInt} {
		wantWalk(t, name, w, n, 0, 0, api.ErrArg)
		wantWalk(t, name, w, 0, n, 0, api.ErrArg)
		wantNotFollowed(t, name, w, []int{n}, 0, api.ErrArg)
		wantNotFollowed(t, name, w, []int{1, n}, 0, api.ErrArg)
		wantNoOrder(t, name, w, n, api.ErrArg)
	}
	wantNotFollowed(t, name, w, nil, 0, api.ErrArg)
	wantNoneEnough(t, name, w, api.ErrArg)
}

// wantValid checks that all functions take a town.
func wantValid(t *testing.T, name string, w api.Town) {
	t.Helper()
	wantWalk(t, name, w, 0, 0, 0, api.OK)
	wantFollow(t, name, w, nil)
	wantOrder(t, name, w, 0)
	if _, _, e := lamp.Fewest(w); e == api.ErrArg {
		t.Errorf("%s: Fewest of %v has the error %d", name, w, e)
	}
}

// TestNightsBeyondTheirLimits sets each number of a night to its limits, and beyond them.
func TestNightsBeyondTheirLimits(t *testing.T) {
	for name, f := range map[string]struct {
		at         func(n *api.Night) *int
		valid, not []int
	}{
		"Dusk":  {func(n *api.Night) *int { return &n.Dusk }, []int{0, 1799, 1800}, []int{-1, 1801, 2881}},
		"Dawn":  {func(n *api.Night) *int { return &n.Dawn }, []int{1000, 1001, 2880}, []int{-1, 0, 999, 2881}},
		"Rise":  {func(n *api.Night) *int { return &n.Rise }, []int{0, 1399, 1400}, []int{-1, 1401, 2881}},
		"Set":   {func(n *api.Night) *int { return &n.Set }, []int{1100, 1101, 2880}, []int{-1, 0, 1099, 2881}},
		"Least": {func(n *api.Night) *int { return &n.Least }, []int{0, 1, 2880}, []int{-1, 2881}},
	} {
		for _, number := range f.valid {
			n := night(1100, 1400)
			*f.at(&n) = number
			wantMinutes(t, n)
		}
		for _, number := range append(f.not, math.MinInt, math.MaxInt) {
			n := night(1100, 1400)
			*f.at(&n) = number
			wantNightNotValid(t, name, n)
		}
	}
	for _, n := range []api.Night{{Dusk: 2, Dawn: 1}, {Rise: 2, Set: 1}, {Dusk: 2, Dawn: 1, Rise: 1, Set: 2}, {Dusk: 2881, Dawn: 2881}, {Dusk: -1, Dawn: -1}, {Rise: 2881, Set: 2881}, {Rise: -1, Set: -1}, {Dusk: math.MinInt, Dawn: math.MaxInt}, {Rise: math.MinInt, Set: math.MaxInt}, {Dusk: math.MaxInt, Dawn: math.MinInt, Least: math.MinInt}} {
		wantNightNotValid(t, "no night", n)
	}
}

// TestTownsBeyondTheirLimits sets each number of a town to its limits, and beyond them.
func TestTownsBeyondTheirLimits(t *testing.T) {
	for name, f := range map[string]struct {
		at         func(w *api.Town) *int
		valid, not []int
	}{
		"Corners":           {func(w *api.Town) *int { return &w.Corners }, []int{4, 5, 10}, []int{-1, 0, 1, 2, 3, 11}},
		"Start":             {func(w *api.Town) *int { return &w.Start }, []int{0, 2880}, []int{-1, 2881}},
		"Each":              {func(w *api.Town) *int { return &w.Each }, []int{0, 60}, []int{-1, 61}},
		"the first A":       {func(w *api.Town) *int { return &w.Streets[0].A }, []int{0, 2, 3}, []int{-1, 1, 4, 9}},
		"the first B":       {func(w *api.Town) *int { return &w.Streets[0].B }, []int{1, 2, 3}, []int{-1, 0, 4, 9}},
		"the first Minutes": {func(w *api.Town) *int { return &w.Streets[0].Minutes }, []int{1, 600}, []int{-1, 0, 601}},
		"the last A":        {func(w *api.Town) *int { return &w.Streets[3].A }, []int{0, 1, 2}, []int{-1, 3, 4, 9}},
		"the last B":        {func(w *api.Town) *int { return &w.Streets[3].B }, []int{0, 1, 3}, []int{-1, 2, 4, 9}},
		"the last Minutes":  {func(w *api.Town) *int { return &w.Streets[3].Minutes }, []int{1, 600}, []int{-1, 0, 601}},
		"the first Corner":  {func(w *api.Town) *int { return &w.Lamps[0].Corner }, []int{0, 3}, []int{-1, 4, 9}},
		"the first Early":   {func(w *api.Town) *int { return &w.Lamps[0].Early }, []int{0, 20}, []int{-1, 21, 2881}},
		"the first Late":    {func(w *api.Town) *int { return &w.Lamps[0].Late }, []int{10, 2880}, []int{-1, 0, 9, 2881}},
		"the last Corner":   {func(w *api.Town) *int { return &w.Lamps[3].Corner }, []int{0, 3}, []int{-1, 4, 9}},
		"the last Early":    {func(w *api.Town) *int { return &w.Lamps[3].Early }, []int{0, 30}, []int{-1, 31, 2881}},
		"the last Late":     {func(w *api.Town) *int { return &w.Lamps[3].Late }, []int{0, 2880}, []int{-1, 2881}},
	} {
		for _, number := range f.valid {
			w := town()
			*f.at(&w) = number
			wantValid(t, name, w)
		}
		for _, number := range append(f.not, math.MinInt, math.MaxInt) {
			w := town()
			*f.at(&w) = number
			wantNotValid(t, name, w)
		}
	}
	beyond := town()
	beyond.Lamps[3] = at(0, 2881, 2881)
	wantNotValid(t, "both times beyond", beyond)
	beyond.Lamps[3] = at(0, -1, -1)
	wantNotValid(t, "both times below", beyond)
	beyond.Lamps[3] = at(0, math.MinInt, math.MaxInt)
	wantNotValid(t, "any time", beyond)
	wantNotValid(t, "nothing", api.Town{})
}

func TestTooMany(t *testing.T) {
	for _, n := range []int{0, 1, 7, 8, 9, 23, 24, 25, 1000} {
		w := api.Town{Corners: 2, Streets: slices.Repeat([]api.Street{street(0, 1, 5)}, n)}
		if n <= 24 {
			wantValid(t, "streets", w)
		} else {
			wantNotValid(t, "streets", w)
		}
		w = api.Town{Corners: 2, Lamps: slices.Repeat([]api.Lamp{at(0, 0, 9)}, n)}
		if n <= 8 {
			wantValid(t, "lamps", w)
		} else {
			wantNotValid(t, "lamps", w)
		}
	}
}

// TestWalkErrors checks corners that are none, and that they are named before a way that is none.
func TestWalkErrors(t *testing.T) {
	for _, w := range []api.Town{town(), {Corners: 4}} {
		for _, n := range []int{-1, 4, 9, 10, math.MinInt, math.MaxInt} {
			for corner := range 4 {
				wantWalk(t, "no corner", w, n, corner, 0, api.ErrRange)
				wantWalk(t, "no corner", w, corner, n, 0, api.ErrRange)
			}
			wantWalk(t, "no corner", w, n, n, 0, api.ErrRange)
		}
	}
	wantWalk(t, "no way", api.Town{Corners: 4}, 0, 3, 0, api.ErrNone)
	wantWalk(t, "the last corner", api.Town{Corners: 10}, 9, 9, 0, api.OK)
}

// TestFollowErrors checks that the first lamp with an error decides, and of its errors the one named first.
func TestFollowErrors(t *testing.T) {
	w := town()
	w.Corners = 5
	w.Lamps = append(w.Lamps, at(4, 0, 0), at(0, 0, 4)) // to the lamp 4 there is no way, and the lamp 5 is always too late
	for _, n := range []int{-1, 6, 8, 64, math.MinInt, math.MaxInt} {
		wantNotFollowed(t, "no lamp", w, []int{n}, 0, api.ErrRange)
		wantNotFollowed(t, "no lamp", w, []int{0, 1, n}, 2, api.ErrRange)
		wantNotFollowed(t, "no lamp, twice", w, []int{0, n, n}, 1, api.ErrRange)
		wantNotFollowed(t, "no lamp, before others", w, []int{0, n, 0, 4, 5}, 1, api.ErrRange)
		wantNotFollowed(t, "no lamp, behind one that is there twice", w, []int{0, 0, n}, 1, api.ErrTwice)
		wantNotFollowed(t, "no lamp, behind one to which there is no way", w, []int{0, 4, n}, 1, api.ErrNone)
		wantNotFollowed(t, "no lamp, behind one that is too late", w, []int{0, 5, n}, 1, api.ErrOrder)
	}
	wantNotFollowed(t, "twice at once", w, []int{3, 3}, 1, api.ErrTwice)
	wantNotFollowed(t, "twice", w, []int{3, 0, 1, 3}, 3, api.ErrTwice)
	wantNotFollowed(t, "twice, and too late", w, []int{2, 1, 2}, 2, api.ErrTwice)
	wantNotFollowed(t, "twice, and too late before", w, []int{0, 2, 0}, 1, api.ErrOrder)
	wantNotFollowed(t, "no way, and too late", w, []int{4}, 0, api.ErrNone)
	wantNotFollowed(t, "no way, later", w, []int{0, 1, 4}, 2, api.ErrNone)
	wantNotFollowed(t, "too late before there is no way", w, []int{5, 4}, 0, api.ErrOrder)
	wantNotFollowed(t, "no way before it is too late", w, []int{4, 5}, 0, api.ErrNone)
	w.Lamps = slices.Repeat([]api.Lamp{at(0, 0, 2880)}, 8)
	wantFollow(t, "all lamps", w, []int{7, 6, 5, 4, 3, 2, 1, 0}, 5, 6, 7, 8, 9, 10, 11, 12)
	wantNotFollowed(t, "more than all", w, []int{7, 6, 5, 4, 3, 2, 1, 0, 7}, 8, api.ErrTwice)
	wantNotFollowed(t, "far more", w, make([]int, 1000), 1, api.ErrTwice)
}

// TestSetsThatAreNone checks sets with lamps that are none, and numbers that are no sets.
func TestSetsThatAreNone(t *testing.T) {
	for _, set := range []int{-1, 16, 17, 0b11011, 1 << 8, 1 << 32, 1<<62 + 1, math.MinInt, math.MinInt + 1, math.MaxInt} {
		wantNoOrder(t, "no set", town(), set, api.ErrRange)
	}
	wantNoOrder(t, "all lamps", town(), 0b1111, api.ErrNone)
	for n := range 9 {
		w := api.Town{Corners: 1, Lamps: slices.Repeat([]api.Lamp{at(0, 0, 2880)}, n)}
		wantOrder(t, "all lamps", w, 1<<n-1, []int{0, 1, 2, 3, 4, 5, 6, 7}[:n]...)
		wantNoOrder(t, "a lamp more", w, 1<<n, api.ErrRange)
	}
}

// TestAnyArguments calls all functions with numbers of all sizes: none of them panics or runs on, and none returns a result besides an error.
func TestAnyArguments(t *testing.T) {
	some := []int{math.MinInt, -1, 0, 0, 0, 1, 1, 1, 2, 2, 3, 3, 4, 5, 8, 9, 10, 11, 20, 60, 61, 600, 601, 2880, 2881, math.MaxInt}
	d := newDice(7)
	number := func() int { return some[d.roll(len(some))] }
	burns, seen := map[api.Errno]int{}, map[api.Errno]int{}
	for range 20_000 {
		n := api.Night{Dusk: number(), Dawn: number(), Rise: number(), Set: number(), Least: number()}
		l, e := lamp.Burns(n)
		burns[e]++
		if e != api.OK && len(l) != 0 {
			t.Errorf("Burns of %v = %v, error %d", n, l, e)
		}
		w := town()
		switch d.roll(8) {
		case 0:
			w.Corners = number()
		case 1:
			w.Start, w.Each = number(), number()
		case 2:
			w.Streets[d.roll(4)] = street(number(), number(), number())
		case 3:
			w.Lamps[d.roll(4)] = at(number(), number(), number())
		case 4:
			w.Streets = slices.Repeat(w.Streets[:1], max(0, min(1000, number())))
		case 5:
			w.Lamps = slices.Repeat(w.Lamps[3:], max(0, min(1000, number())))
		}
		minutes, e := lamp.Walk(w, number(), number())
		seen[e]++
		if e != api.OK && minutes != 0 {
			t.Errorf("Walk of %v = %d, error %d", w, minutes, e)
		}
		wantNoMore(t, w, []int{number(), number(), number()}, number(), e == api.ErrArg)
	}
	if min(burns[api.OK], burns[api.ErrArg], seen[api.OK], seen[api.ErrArg], seen[api.ErrRange], seen[api.ErrNone]) < 100 {
		t.Errorf("Burns had the errors %v, Walk %v", burns, seen)
	}
}

// wantNoMore checks that Follow, Order and Fewest return nothing besides an error, and ErrArg if Walk does.
func wantNoMore(t *testing.T, w api.Town, round []int, set int, bad bool) {
	t.Helper()
	times, index, e := lamp.Follow(w, round)
	if (e == api.ErrArg) != bad || e != api.OK && len(times) != 0 || index != len(times) && e == api.OK {
		t.Errorf("Follow of %v, %v = %v, %d, error %d", w, round, times, index, e)
	}
	order, e := lamp.Order(w, set)
	if (e == api.ErrArg) != bad || e != api.OK && len(order) != 0 {
		t.Errorf("Order of %v, %b = %v, error %d", w, set, order, e)
	}
	allotment, men, e := lamp.Fewest(w)
	if (e == api.ErrArg) != bad || e != api.OK && len(allotment)+men != 0 || e == api.OK && len(allotment) != len(w.Lamps) {
		t.Errorf("Fewest of %v = %v, %d, error %d", w, allotment, men, e)
	}
}
