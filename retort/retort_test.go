package retort_test

import (
	"slices"
	"testing"

	"gasworks/api"
	"gasworks/retort"
)

const last = api.MaxHour

func span(lo, hi int) api.Span { return api.Span{Lo: lo, Hi: hi} }

func charge(hour, retort, tons int) api.Stoke {
	return api.Stoke{Hour: hour, Retort: retort, Kind: api.Charge, Tons: tons}
}

func empty(hour, retort int) api.Stoke {
	return api.Stoke{Hour: hour, Retort: retort, Kind: api.Empty}
}

func scour(hour, retort int) api.Stoke {
	return api.Stoke{Hour: hour, Retort: retort, Kind: api.Scour}
}

func letOut(hour, retort int) api.Stoke {
	return api.Stoke{Hour: hour, Retort: retort, Kind: api.LetOut}
}

func lightUp(hour, retort int) api.Stoke {
	return api.Stoke{Hour: hour, Retort: retort, Kind: api.LightUp}
}

// house returns the house of the chapter's examples.
func house() api.House {
	return api.House{Curve: []api.Span{span(10, 12), span(20, 25), span(5, 8)}, Least: 2, Runs: 2, Scurf: 3, Coolings: 1, Gang: 2}
}

// calm returns a house whose gang never has too much to do.
func calm() api.House {
	w := house()
	w.Gang = api.MaxCount
	return w
}

// example returns the stokes of the chapter's examples, and more.
func example(more ...api.Stoke) []api.Stoke {
	l := []api.Stoke{charge(10, 0, 4), charge(10, 1, 2), empty(12, 0), charge(12, 0, 3), empty(14, 0)}
	return append(l, more...)
}

func stokes(l ...api.Stoke) []api.Stoke { return l }

// wantOven checks how a retort is after some stokes, and that Play did all of them.
func wantOven(t *testing.T, w api.House, l []api.Stoke, number int, want api.Oven) {
	t.Helper()
	ovens, index, e := retort.Play(w, l)
	if e != api.OK || index != len(l) || ovens[number] != want {
		t.Errorf("Play of %v: retort %d is %v, index %d, error %d; want %v", l, number, ovens[number], index, e, want)
	}
}

// wantStop checks the stoke that cannot be done, and that every function returns its error.
func wantStop(t *testing.T, w api.House, l []api.Stoke, index int, want api.Errno) {
	t.Helper()
	ovens, i, e := retort.Play(w, l)
	if e != want || i != index || ovens != [8]api.Oven{} {
		t.Errorf("Play of %v = %v, index %d, error %d; want index %d, error %d", l, ovens, i, e, index, want)
	}
	for _, hour := range []int{0, 12, -1} {
		if s, e := retort.Make(w, l, hour, 20); e != want || s != (api.Span{}) {
			t.Errorf("Make of %v = %v, error %d; want error %d", l, s, e, want)
		}
	}
	if hour, s, e := retort.Peak(w, l); e != want || hour != 0 || s != (api.Span{}) {
		t.Errorf("Peak of %v = %d, %v, error %d; want error %d", l, hour, s, e, want)
	}
	for _, number := range []int{0, 1, api.MaxRetort, -1, api.MaxRetort + 1} {
		if hour, e := retort.Soonest(w, l, number); e != want || hour != 0 {
			t.Errorf("Soonest of %v = %d, error %d; want error %d", l, hour, e, want)
		}
	}
}

func wantMake(t *testing.T, w api.House, l []api.Stoke, from, to int, want api.Span) {
	t.Helper()
	if s, e := retort.Make(w, l, from, to); e != api.OK || s != want {
		t.Errorf("Make of %v, from %d to %d = %v, error %d; want %v", l, from, to, s, e, want)
	}
}

func wantPeak(t *testing.T, w api.House, l []api.Stoke, hour int, want api.Span) {
	t.Helper()
	if h, s, e := retort.Peak(w, l); e != api.OK || h != hour || s != want {
		t.Errorf("Peak of %v = %d, %v, error %d; want %d, %v", l, h, s, e, hour, want)
	}
}

// wantSoonest checks an hour, or an error.
func wantSoonest(t *testing.T, w api.House, l []api.Stoke, number, hour int, want api.Errno) {
	t.Helper()
	if h, e := retort.Soonest(w, l, number); e != want || h != hour {
		t.Errorf("Soonest of %v, retort %d = %d, error %d; want %d, error %d", l, number, h, e, hour, want)
	}
}

func TestPlayOfTheExamples(t *testing.T) {
	wantOven(t, house(), example(), 0, api.Oven{State: api.Hot, Since: 14, Runs: 2})
	wantOven(t, house(), example(), 1, api.Oven{State: api.Baking, Since: 10, Tons: 2, Runs: 1})
	for number := 2; number <= api.MaxRetort; number++ {
		wantOven(t, house(), example(), number, api.Oven{})
	}
	wantStop(t, house(), example(empty(14, 1), charge(14, 2, 1)), 6, api.ErrFull)
	wantStop(t, house(), example(charge(15, 0, 1)), 5, api.ErrRefuse)
	wantStop(t, house(), example(charge(13, 2, 1)), 5, api.ErrOrder)
}

func TestPlayOfNothing(t *testing.T) {
	for _, l := range [][]api.Stoke{nil, {}} {
		for number := range api.MaxRetort + 1 {
			wantOven(t, house(), l, number, api.Oven{})
		}
	}
}

// TestKinds checks what each kind of stoke does, in the least hour in which it can be done.
func TestKinds(t *testing.T) {
	baking, hot := stokes(charge(10, 3, 7)), stokes(charge(10, 3, 7), empty(12, 3))
	wantOven(t, calm(), baking, 3, api.Oven{State: api.Baking, Since: 10, Tons: 7, Runs: 1})
	wantOven(t, calm(), hot, 3, api.Oven{State: api.Hot, Since: 12, Runs: 1})
	wantOven(t, calm(), append(hot, charge(12, 3, 1)), 3, api.Oven{State: api.Baking, Since: 12, Tons: 1, Runs: 2})
	wantOven(t, calm(), append(hot, scour(12, 3)), 3, api.Oven{State: api.Hot, Since: 15})
	wantOven(t, calm(), append(hot, scour(12, 3), scour(15, 3)), 3, api.Oven{State: api.Hot, Since: 18})
	wantOven(t, calm(), append(hot, scour(12, 3), charge(15, 3, 2)), 3, api.Oven{State: api.Baking, Since: 15, Tons: 2, Runs: 1})
	wantOven(t, calm(), append(hot, scour(12, 3), letOut(15, 3)), 3, api.Oven{State: api.Cold, Since: 15})
	wantOven(t, calm(), append(hot, letOut(12, 3)), 3, api.Oven{State: api.Cold, Since: 12, Runs: 1})
	wantOven(t, calm(), append(hot, letOut(12, 3), lightUp(12, 3)), 3, api.Oven{State: api.Hot, Since: 12, Runs: 1, Coolings: 1})
	wantOven(t, calm(), append(hot, letOut(12, 3), lightUp(13, 3), charge(13, 3, 2)), 3, api.Oven{State: api.Baking, Since: 13, Tons: 2, Runs: 2, Coolings: 1})
	wantOven(t, calm(), append(hot, letOut(12, 3), lightUp(13, 3), scour(14, 3)), 3, api.Oven{State: api.Hot, Since: 17, Coolings: 1})
	wantOven(t, calm(), append(hot, letOut(12, 3), lightUp(13, 3), letOut(14, 3), lightUp(15, 3)), 3, api.Oven{State: api.Cracked, Since: 15, Runs: 1, Coolings: 2})
}

// TestCoolings checks that a retort cracks if it is lit after it was let out once more than the house allows.
func TestCoolings(t *testing.T) {
	for _, coolings := range []int{0, 1, 5, 20} {
		w := calm()
		w.Coolings = coolings
		var l []api.Stoke
		for k := range coolings + 1 {
			wantOven(t, w, l, 6, api.Oven{State: api.Hot, Since: k, Coolings: k})
			l = append(l, letOut(k+1, 6), lightUp(k+1, 6))
		}
		wantOven(t, w, l, 6, api.Oven{State: api.Cracked, Since: coolings + 1, Coolings: coolings + 1})
		wantOven(t, w, l, 5, api.Oven{})
		for _, k := range everyKind(coolings+1, 6) {
			wantStop(t, w, append(l, k), len(l), api.ErrState)
		}
	}
}

// TestRuns checks that a retort is charged no more often than the house allows before it is scurfed.
func TestRuns(t *testing.T) {
	for _, runs := range []int{1, 2, 7} {
		w := calm()
		w.Runs = runs
		var l []api.Stoke
		for range 2 {
			l = append(l, scour(len(l)*w.Scurf, 2))
			for range runs {
				hour := l[len(l)-1].Hour + w.Scurf
				l = append(l, charge(hour, 2, 1), empty(hour+w.Least, 2))
			}
			hour := l[len(l)-1].Hour
			wantOven(t, w, l, 2, api.Oven{State: api.Hot, Since: hour, Runs: runs})
			wantStop(t, w, append(l, charge(hour, 2, 1)), len(l), api.ErrRefuse)
			wantStop(t, w, append(l, letOut(hour, 2), lightUp(hour, 2), charge(hour+1, 2, 1)), len(l)+2, api.ErrRefuse)
		}
	}
}

func TestMakeOfTheExamples(t *testing.T) {
	wantMake(t, house(), example(), 10, 10, span(60, 72))
	wantMake(t, house(), example(), 12, 12, span(40, 52))
	wantMake(t, house(), example(), 10, 20, span(280, 349))
}

func TestMakeAtItsEdges(t *testing.T) {
	wantMake(t, house(), nil, 0, last, span(0, 0))
	wantMake(t, house(), example(), 0, 9, span(0, 0))
	wantMake(t, house(), example(), 0, 10, span(60, 72))
	wantMake(t, house(), example(), 14, last, span(0, 0))
	wantMake(t, house(), example(), 13, last, span(60, 75))
	wantMake(t, house(), example(), 0, last, span(280, 349))
	long := stokes(charge(5, 0, 2), empty(50, 0))
	wantMake(t, house(), long, 7, 7, span(10, 16))
	wantMake(t, house(), long, 8, last, span(0, 0))
	scoured := stokes(charge(5, 0, 2), empty(7, 0), scour(7, 0))
	wantMake(t, house(), scoured, 0, last, span(60, 74))
	early := stokes(charge(0, 7, 1))
	wantMake(t, house(), early, 0, 0, span(10, 12))
	late := stokes(charge(last-1, 0, 2), charge(last, 1, 3))
	wantMake(t, house(), late, 0, last, span(2*30+3*10, 2*37+3*12))
	wantMake(t, house(), late, last, last, span(2*20+3*10, 2*25+3*12))
	for _, c := range [][2]int{{-1, 5}, {6, 5}, {-2, -1}, {0, last + 1}, {last + 1, last + 1}, {last, 0}} {
		if s, e := retort.Make(house(), example(), c[0], c[1]); e != api.ErrRange || s != (api.Span{}) {
			t.Errorf("Make from %d to %d = %v, error %d; want ErrRange", c[0], c[1], s, e)
		}
	}
}

// TestMakeOfTheGreatest checks the most gas that there can be.
func TestMakeOfTheGreatest(t *testing.T) {
	w := api.House{Curve: slices.Repeat([]api.Span{span(0, api.MaxYield)}, api.MaxCurve), Least: 1, Runs: api.MaxCount, Scurf: 1, Gang: api.MaxCount}
	var l []api.Stoke
	for number := range api.MaxRetort + 1 {
		l = append(l, charge(0, number, api.MaxCharge))
	}
	wantMake(t, w, l, 0, last, span(0, (api.MaxRetort+1)*api.MaxCharge*api.MaxCurve*api.MaxYield))
	wantPeak(t, w, l, 0, span(0, (api.MaxRetort+1)*api.MaxCharge*api.MaxYield))
}

func TestPeak(t *testing.T) {
	wantPeak(t, house(), example(), 11, span(120, 150))
	wantPeak(t, house(), nil, 0, span(0, 0))
	wantPeak(t, house(), stokes(letOut(9, 0)), 0, span(0, 0))
	wantPeak(t, house(), stokes(charge(last-1, 0, 2)), last, span(40, 50))
	wantPeak(t, house(), stokes(charge(last, 0, 2)), last, span(20, 24))
	wantPeak(t, house(), stokes(charge(5, 0, 2), charge(8, 1, 2)), 6, span(40, 50))
	wantPeak(t, house(), stokes(charge(5, 0, 2), charge(8, 1, 3)), 9, span(60, 75))
	wantPeak(t, house(), stokes(charge(5, 0, 1), charge(6, 1, 4)), 7, span(85, 108))
}

// TestPeakByGreatest checks that the greatest end decides, and of equal ones the first hour.
func TestPeakByGreatest(t *testing.T) {
	w := house()
	w.Curve = []api.Span{span(5, 5), span(0, 6), span(6, 6)}
	wantPeak(t, w, stokes(charge(3, 0, 1)), 4, span(0, 6))
	w.Curve = []api.Span{span(0, 0), span(0, 0)}
	wantPeak(t, w, stokes(charge(3, 0, 1)), 0, span(0, 0))
	w.Curve = []api.Span{span(0, 0), span(1, 1), span(1, 1)}
	wantPeak(t, w, stokes(charge(3, 0, 1)), 4, span(1, 1))
}

func TestSoonestOfTheExamples(t *testing.T) {
	wantSoonest(t, house(), example(), 0, 17, api.OK)
	wantSoonest(t, house(), example(), 1, 15, api.OK)
	wantSoonest(t, house(), example(), 2, 14, api.OK)
}

func TestSoonest(t *testing.T) {
	w := house()
	w.Gang = 1
	wantSoonest(t, house(), nil, 0, 0, api.OK)
	wantSoonest(t, house(), nil, api.MaxRetort, 0, api.OK)
	wantSoonest(t, house(), stokes(charge(5, 0, 1)), 0, 7, api.OK)
	wantSoonest(t, w, stokes(charge(5, 0, 1)), 0, 8, api.OK)
	wantSoonest(t, house(), stokes(charge(5, 0, 1), letOut(30, 1)), 0, 31, api.OK)
	wantSoonest(t, calm(), stokes(charge(5, 0, 1), letOut(30, 1)), 0, 30, api.OK)
	wantSoonest(t, house(), example(scour(14, 0)), 0, 17, api.OK)
	wantSoonest(t, house(), example(scour(14, 0), letOut(40, 5)), 0, 40, api.OK)
	wantSoonest(t, house(), example(empty(14, 1)), 0, 18, api.OK)
	wantSoonest(t, house(), example(empty(14, 1)), 2, 15, api.OK)
	twice := stokes(charge(10, 0, 4), empty(12, 0), charge(13, 0, 4))
	wantSoonest(t, house(), twice, 0, 18, api.OK)
	wantSoonest(t, w, twice, 0, 19, api.OK)
	wantSoonest(t, w, twice, 1, 14, api.OK)
}

func TestSoonestErrors(t *testing.T) {
	for _, number := range []int{-1, api.MaxRetort + 1} {
		wantSoonest(t, house(), example(), number, 0, api.ErrRange)
	}
	cold := example(letOut(15, 0))
	cracked := append(cold, lightUp(16, 0), letOut(17, 0), lightUp(18, 0))
	wantSoonest(t, house(), cold, 0, 0, api.ErrState)
	wantSoonest(t, house(), cracked, 0, 0, api.ErrState)
	wantSoonest(t, house(), cracked[:len(cracked)-2], 0, 19, api.OK)
	wantSoonest(t, house(), stokes(letOut(last, 0)), 0, 0, api.ErrState)
}

// TestSoonestAtTheLastHour checks hours that are just not too great, and those that are.
func TestSoonestAtTheLastHour(t *testing.T) {
	wantSoonest(t, house(), stokes(charge(last-2, 0, 1)), 0, last, api.OK)
	wantSoonest(t, house(), stokes(charge(last-1, 0, 1)), 0, 0, api.ErrOrder)
	wantSoonest(t, house(), stokes(scour(last-3, 0)), 0, last, api.OK)
	wantSoonest(t, house(), stokes(scour(last-2, 0)), 0, 0, api.ErrOrder)
	wantSoonest(t, house(), stokes(letOut(last, 0)), 1, last, api.OK)
	wantSoonest(t, house(), stokes(letOut(last, 0), lightUp(last, 0)), 1, 0, api.ErrOrder)
	wantSoonest(t, house(), stokes(letOut(last, 0), lightUp(last, 0)), -1, 0, api.ErrRange)
}

// TestSoonestAfterAllStokes checks that further stokes may be more than MaxStokes together.
func TestSoonestAfterAllStokes(t *testing.T) {
	w := calm()
	w.Coolings = api.MaxCount
	l := stokes(charge(0, 0, 1), empty(2, 0), charge(2, 0, 1), letOut(5, 1))
	for len(l) < api.MaxStokes {
		l = append(l, lightUp(5, 1), letOut(5, 1))
	}
	wantSoonest(t, w, l, 0, 8, api.OK)
	wantSoonest(t, w, l, 2, 5, api.OK)
	wantSoonest(t, w, l, 1, 0, api.ErrState)
}
