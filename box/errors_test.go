package box_test

import (
	"math"
	"slices"
	"testing"

	"gasworks/api"
	"gasworks/box"
)

// wantError checks the error of each function that gets turns, and the hour that Run returns with it.
func wantError(t *testing.T, x api.Train, turns []bool, hour int, want api.Errno) {
	t.Helper()
	if l, h, e := box.Run(x, turns); e != want || h != hour || len(l) != 0 {
		t.Errorf("Run of %v with %v = %v, %d, error %d; want %d, error %d", x, turns, l, h, e, hour, want)
	}
	if l, e := box.Beds(x, turns); e != want || len(l) != 0 {
		t.Errorf("Beds of %v with %v = %v, error %d; want error %d", x, turns, l, e, want)
	}
	if n, e := box.Margin(x, turns); e != want || n != 0 {
		t.Errorf("Margin of %v with %v = %d, error %d; want error %d", x, turns, n, e, want)
	}
}

// wantNotValid checks that a train is not valid, whatever else is wrong with it or with the turns.
func wantNotValid(t *testing.T, x api.Train) {
	t.Helper()
	n := len(x.Loads)
	for _, turns := range [][]bool{nil, make([]bool, n), make([]bool, n+1), slices.Repeat([]bool{true}, n)} {
		wantError(t, x, turns, 0, api.ErrArg)
	}
	if l, cost, e := box.Best(x); e != api.ErrArg || cost != 0 || len(l) != 0 {
		t.Errorf("Best of %v = %v, %d, error %d; want ErrArg", x, l, cost, e)
	}
}

// wantValid checks that a train is valid, whether or not it can keep the gas clean.
func wantValid(t *testing.T, name string, x api.Train) {
	t.Helper()
	if _, _, e := box.Run(x, make([]bool, len(x.Loads))); e != api.OK {
		t.Errorf("%s: Run has the error %d", name, e)
	}
	if _, _, e := box.Best(x); e != api.OK && e != api.ErrFoul {
		t.Errorf("%s: Best has the error %d", name, e)
	}
}

func TestTrainsThatAreNotValid(t *testing.T) {
	for name, spoil := range map[string]func(x *api.Train){
		"nothing":             func(x *api.Train) { *x = api.Train{} },
		"no boxes":            func(x *api.Train) { x.Boxes = nil },
		"an empty list":       func(x *api.Train) { x.Boxes = []api.Box{} },
		"too many boxes":      func(x *api.Train) { x.Boxes = slices.Repeat(x.Boxes, 2) },
		"no Room":             func(x *api.Train) { x.Boxes[0] = api.Box{Rate: 1} },
		"Room below 0":        func(x *api.Train) { x.Boxes[1].Room = -1 },
		"the least Room":      func(x *api.Train) { x.Boxes[1].Room = math.MinInt },
		"Room too great":      func(x *api.Train) { x.Boxes[2].Room = api.MaxRoom + 1 },
		"no Rate":             func(x *api.Train) { x.Boxes[0].Rate = 0 },
		"Rate below 0":        func(x *api.Train) { x.Boxes[1].Rate = -1 },
		"Rate too great":      func(x *api.Train) { x.Boxes[2].Rate = api.MaxRoom + 1 },
		"Foul below 0":        func(x *api.Train) { x.Boxes[2].Foul = -1 },
		"Foul above Room":     func(x *api.Train) { x.Boxes[2].Foul = 9 },
		"Revives below 0":     func(x *api.Train) { x.Revives = -1 },
		"Revives too great":   func(x *api.Train) { x.Wear, x.Revives = 0, api.MaxRevives+1 },
		"Wear below 0":        func(x *api.Train) { x.Wear = -1 },
		"Wear too great":      func(x *api.Train) { x.Wear, x.Revives = api.MaxRoom+1, 0 },
		"worn away":           func(x *api.Train) { x.Wear = 8 },
		"worn away in time":   func(x *api.Train) { x.Wear, x.Revives = 2, 4 },
		"worn to below 0":     func(x *api.Train) { x.Wear = 9 },
		"Wear of all numbers": func(x *api.Train) { x.Wear, x.Revives = math.MaxInt, math.MaxInt },
		"Wear that overflows": func(x *api.Train) { x.Wear, x.Revives = 1<<62, 4 },
		"Rest 0":              func(x *api.Train) { x.Rest = 0 },
		"Rest too great":      func(x *api.Train) { x.Rest = api.MaxRest + 1 },
		"Work below 0":        func(x *api.Train) { x.Work = -1 },
		"Work too great":      func(x *api.Train) { x.Work = api.MaxWork + 1 },
		"Tip below 0":         func(x *api.Train) { x.Tip = -1 },
		"Tip too great":       func(x *api.Train) { x.Tip = api.MaxWork + 1 },
		"too many loads":      func(x *api.Train) { x.Loads = make([]api.Span, api.MaxLoads+1) },
		"a load below 0":      func(x *api.Train) { x.Loads[0] = span(-1, 1) },
		"a load wrong way":    func(x *api.Train) { x.Loads[1] = span(2, 1) },
		"a load too great":    func(x *api.Train) { x.Loads[5] = span(0, api.MaxRoom+1) },
		"a load of all":       func(x *api.Train) { x.Loads[5] = span(math.MinInt, math.MaxInt) },
		"a load of none":      func(x *api.Train) { x.Loads[5] = span(math.MaxInt, math.MinInt) },
	} {
		t.Run(name, func(t *testing.T) {
			x := example(6)
			spoil(&x)
			wantNotValid(t, x)
		})
	}
}

func TestTrainsAtTheirLimits(t *testing.T) {
	least := api.Train{Boxes: []api.Box{{Room: 1, Rate: 1}}, Rest: 1}
	wantValid(t, "the least numbers", least)
	most := api.Train{
		Boxes: slices.Repeat([]api.Box{{Room: api.MaxRoom, Rate: api.MaxRoom, Foul: api.MaxRoom}}, api.MaxBoxes),
		Wear:  (api.MaxRoom - 1) / api.MaxRevives, Revives: api.MaxRevives, Rest: api.MaxRest, Work: api.MaxWork, Tip: api.MaxWork,
		Loads: slices.Repeat(spans(span(0, api.MaxRoom), span(api.MaxRoom, api.MaxRoom)), api.MaxLoads/2),
	}
	wantValid(t, "the greatest numbers", most)
	for name, change := range map[string]func(x *api.Train){
		"full boxes":                  func(x *api.Train) { x.Boxes[2].Foul = 8 },
		"hardly any room left":        func(x *api.Train) { x.Wear = 7 },
		"hardly any room left by two": func(x *api.Train) { x.Boxes[2].Room, x.Wear, x.Revives = 7, 3, 2 },
		"no wear":                     func(x *api.Train) { x.Wear, x.Revives = 0, api.MaxRevives },
		"the greatest Wear, for none": func(x *api.Train) { x.Wear, x.Revives = api.MaxRoom, 0 },
	} {
		x := example(6)
		change(&x)
		wantValid(t, name, x)
	}
}

// TestTurnsOfOtherHours checks turns that are too few or too many, also where one of them is wrong.
func TestTurnsOfOtherHours(t *testing.T) {
	for _, n := range []int{0, 1, 5, 7, 17, 1000} {
		wantError(t, example(6), make([]bool, n), 0, api.ErrRange)
		wantError(t, example(6), slices.Repeat([]bool{true}, n), 0, api.ErrRange)
	}
	wantError(t, example(0), at(1), 0, api.ErrRange)
}

func TestWrongTurns(t *testing.T) {
	one := api.Train{Boxes: []api.Box{{Room: 5, Rate: 5}}, Rest: 1, Loads: exactly(1, 9, 1)}
	wantError(t, one, at(3, 0), 0, api.ErrState)
	wantError(t, one, at(3, 1, 2), 1, api.ErrState)
	wantError(t, one, at(3, 2), 2, api.ErrState)
	three := example(6)
	three.Rest = 3
	wantError(t, three, at(6, 0, 1, 2, 3), 2, api.ErrState)
	wantError(t, three, at(6, 0, 1, 3, 4, 5), 5, api.ErrState)
	wantRun(t, "all boxes but one are out", example(3), at(3, 0, 1, 2), span(0, 0), span(1, 2), span(0, 0))
	two := pair(1, 1, 1, 1)
	two.Rest = 2
	wantError(t, two, at(4, 0, 1), 1, api.ErrState)
	wantError(t, two, at(4, 1, 2, 3), 2, api.ErrState)
	wantRun(t, "just back", two, at(4, 0, 2), make([]api.Span, 4)...)
	two.Rest = api.MaxRest
	wantError(t, two, at(4, 0, 3), 3, api.ErrState)
	// A wrong turn comes before what slips through.
	foul := pair(99, 99, 1)
	foul.Rest = 2
	wantError(t, foul, at(3, 1, 2), 2, api.ErrState)
	wantNoMargin(t, "no wrong turn", foul, at(3, 1))
}

// TestAnyArguments calls all functions with numbers of all sizes: none of them panics or runs on, and none returns a result besides an error.
func TestAnyArguments(t *testing.T) {
	some := []int{math.MinInt, -1, 0, 1, 2, 3, 5, 16, 24, 1000, api.MaxRoom, api.MaxRoom + 1, math.MaxInt}
	d := newDice(7)
	one := func() int { return some[d.roll(len(some))] }
	for range 5000 {
		x := example(6)
		for range d.roll(3) {
			numbers := []*int{&x.Wear, &x.Revives, &x.Rest, &x.Work, &x.Tip, &x.Boxes[0].Room, &x.Boxes[1].Rate, &x.Boxes[2].Foul, &x.Loads[0].Lo, &x.Loads[5].Hi}
			*numbers[d.roll(len(numbers))] = one()
		}
		if d.roll(4) == 0 {
			x.Boxes = slices.Repeat(x.Boxes[:d.roll(4)], d.roll(4))
		}
		if d.roll(4) == 0 {
			x.Loads = slices.Repeat(x.Loads[:d.roll(7)], d.roll(5))
		}
		turns := make([]bool, len(x.Loads)+d.roll(20)/19)
		for hour := range turns {
			turns[hour] = d.roll(4) == 0
		}
		callAll(t, x, turns)
	}
}

func callAll(t *testing.T, x api.Train, turns []bool) {
	t.Helper()
	l, hour, e := box.Run(x, turns)
	if e != api.OK && (len(l) != 0 || e != api.ErrState && hour != 0) || e == api.OK && (len(l) != len(x.Loads) || hour != len(l)) {
		t.Errorf("Run of %v with %v = %v, %d, error %d", x, turns, l, hour, e)
	}
	beds, other := box.Beds(x, turns)
	if other != e || e != api.OK && len(beds) != 0 || e == api.OK && len(beds) != len(x.Boxes) {
		t.Errorf("Beds of %v with %v = %v, error %d; Run has the error %d", x, turns, beds, other, e)
	}
	n, other := box.Margin(x, turns)
	if e != api.OK && other != e || other != api.OK && n != 0 {
		t.Errorf("Margin of %v with %v = %d, error %d; Run has the error %d", x, turns, n, other, e)
	}
	best, cost, other := box.Best(x)
	if (other == api.ErrArg) != (e == api.ErrArg) || other != api.OK && (len(best) != 0 || cost != 0) {
		t.Errorf("Best of %v = %v, %d, error %d; Run has the error %d", x, best, cost, other, e)
	}
}
