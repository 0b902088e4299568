package retort_test

import (
	"math"
	"slices"
	"testing"

	"gasworks/api"
	"gasworks/retort"
)

// everyKind returns a valid stoke of each kind.
func everyKind(hour, number int) []api.Stoke {
	return stokes(charge(hour, number, 1), empty(hour, number), scour(hour, number), letOut(hour, number), lightUp(hour, number))
}

func TestHousesThatAreNotValid(t *testing.T) {
	for name, spoil := range map[string]func(w *api.House){
		"nothing":              func(w *api.House) { *w = api.House{} },
		"no curve":             func(w *api.House) { w.Curve = nil },
		"an empty curve":       func(w *api.House) { w.Curve = []api.Span{} },
		"too long a curve":     func(w *api.House) { w.Curve = make([]api.Span, api.MaxCurve+1) },
		"a span below 0":       func(w *api.House) { w.Curve[0] = span(-1, 1) },
		"a span wrong way":     func(w *api.House) { w.Curve[2] = span(2, 1) },
		"a span too great":     func(w *api.House) { w.Curve[2] = span(0, api.MaxYield+1) },
		"a span of all":        func(w *api.House) { w.Curve[1] = span(math.MinInt, math.MaxInt) },
		"a span of none":       func(w *api.House) { w.Curve[1] = span(math.MaxInt, math.MinInt) },
		"Least 0":              func(w *api.House) { w.Least = 0 },
		"Least too great":      func(w *api.House) { w.Least = api.MaxCurve + 1 },
		"Runs 0":               func(w *api.House) { w.Runs = 0 },
		"Runs too great":       func(w *api.House) { w.Runs = api.MaxCount + 1 },
		"Scurf 0":              func(w *api.House) { w.Scurf = 0 },
		"Scurf too great":      func(w *api.House) { w.Scurf = api.MaxCount + 1 },
		"Gang 0":               func(w *api.House) { w.Gang = 0 },
		"Gang too great":       func(w *api.House) { w.Gang = api.MaxCount + 1 },
		"Coolings below 0":     func(w *api.House) { w.Coolings = -1 },
		"Coolings too great":   func(w *api.House) { w.Coolings = api.MaxCount + 1 },
		"the greatest numbers": func(w *api.House) { w.Least, w.Gang = math.MaxInt, math.MaxInt },
		"the least numbers":    func(w *api.House) { w.Runs, w.Scurf = math.MinInt, math.MinInt },
	} {
		t.Run(name, func(t *testing.T) {
			w := house()
			spoil(&w)
			wantStop(t, w, nil, 0, api.ErrArg)
			wantStop(t, w, example(), 0, api.ErrArg)
			wantStop(t, w, example(charge(15, 0, 1)), 0, api.ErrArg)
			wantStop(t, w, make([]api.Stoke, api.MaxStokes+1), 0, api.ErrArg)
		})
	}
}

func TestHousesAtTheirLimits(t *testing.T) {
	least := api.House{Curve: []api.Span{{}}, Least: 1, Runs: 1, Scurf: 1, Gang: 1}
	wantOven(t, least, stokes(charge(0, 0, 1), empty(1, 0), scour(2, 0)), 0, api.Oven{Since: 3})
	curve := slices.Repeat([]api.Span{span(0, api.MaxYield), span(api.MaxYield, api.MaxYield)}, api.MaxCurve/2)
	most := api.House{Curve: curve, Least: api.MaxCurve, Runs: api.MaxCount, Scurf: api.MaxCount, Coolings: api.MaxCount, Gang: api.MaxCount}
	wantOven(t, most, stokes(charge(0, 0, api.MaxCharge), empty(24, 0), scour(last, 0)), 0, api.Oven{Since: last + api.MaxCount})
	// A retort can be baked for longer than the curve gives gas.
	long := house()
	long.Least = api.MaxCurve
	wantStop(t, long, stokes(charge(0, 0, 1), empty(api.MaxCurve-1, 0)), 1, api.ErrOrder)
	wantOven(t, long, stokes(charge(0, 0, 1), empty(api.MaxCurve, 0)), 0, api.Oven{Since: api.MaxCurve, Runs: 1})
}

func TestTooManyStokes(t *testing.T) {
	var l []api.Stoke
	for hour := range api.MaxStokes {
		l = append(l, scour(hour*3, 0))
	}
	wantOven(t, house(), l, 0, api.Oven{Since: api.MaxStokes * 3})
	wantStop(t, house(), append(l, scour(api.MaxStokes*3, 0)), 0, api.ErrLong)
	wantStop(t, house(), slices.Repeat(stokes(charge(-1, -1, -1)), api.MaxStokes+1), 0, api.ErrLong)
	wantStop(t, house(), make([]api.Stoke, 1<<16), 0, api.ErrLong)
}

func TestStokesThatAreNotValid(t *testing.T) {
	bad := stokes(
		charge(-1, 2, 1), charge(last+1, 2, 1), charge(math.MinInt, 2, 1), charge(math.MaxInt, 2, 1),
		charge(14, -1, 1), charge(14, api.MaxRetort+1, 1), charge(14, math.MinInt, 1), charge(14, math.MaxInt, 1),
		charge(14, 2, 0), charge(14, 2, -1), charge(14, 2, api.MaxCharge+1), charge(14, 2, math.MaxInt),
	)
	for _, kind := range []int{-1, api.LightUp + 1, math.MinInt, math.MaxInt} {
		bad = append(bad, api.Stoke{Hour: 14, Retort: 2, Kind: kind}, api.Stoke{Hour: 14, Retort: 2, Kind: kind, Tons: 1})
	}
	for _, kind := range []int{api.Empty, api.Scour, api.LetOut, api.LightUp} {
		for _, tons := range []int{-1, 1, math.MaxInt} {
			bad = append(bad, api.Stoke{Hour: 14, Retort: 2, Kind: kind, Tons: tons})
		}
	}
	for _, k := range bad {
		wantStop(t, house(), stokes(k), 0, api.ErrArg)
		wantStop(t, house(), example(k), 5, api.ErrArg)
		wantStop(t, house(), example(k, charge(13, 0, 1)), 5, api.ErrArg)
	}
	for _, k := range stokes(charge(0, 0, 1), charge(last, api.MaxRetort, api.MaxCharge)) {
		wantOven(t, house(), stokes(k), k.Retort, api.Oven{State: api.Baking, Since: k.Hour, Tons: k.Tons, Runs: 1})
	}
}

// TestStates checks what can be done in none but one state.
func TestStates(t *testing.T) {
	hot, baking := stokes(scour(10, 0)), stokes(charge(10, 0, 1))
	cold := stokes(letOut(10, 0))
	cracked := stokes(letOut(10, 0), lightUp(10, 0), letOut(10, 0), lightUp(10, 0))
	for _, c := range []struct {
		name string
		l    []api.Stoke
		can  []int
	}{
		{"hot", hot, []int{api.Charge, api.Scour, api.LetOut}},
		{"baking", baking, []int{api.Empty}},
		{"cold", cold, []int{api.LightUp}},
		{"cracked", cracked, nil},
	} {
		for _, k := range everyKind(20, 0) {
			if slices.Contains(c.can, k.Kind) {
				if _, n, e := retort.Play(calm(), append(c.l, k)); e != api.OK || n != len(c.l)+1 {
					t.Errorf("the kind %d of a retort that is %s: index %d, error %d", k.Kind, c.name, n, e)
				}
				continue
			}
			wantStop(t, calm(), append(c.l, k), len(c.l), api.ErrState)
		}
	}
}

// TestTooEarly checks hours that are one too early, and that the state comes before the hour.
func TestTooEarly(t *testing.T) {
	wantStop(t, calm(), stokes(charge(10, 0, 1), empty(11, 0)), 1, api.ErrOrder)
	scoured := stokes(scour(10, 0))
	for _, k := range stokes(charge(12, 0, 1), scour(12, 0), letOut(12, 0)) {
		wantStop(t, calm(), append(scoured, k), 1, api.ErrOrder)
	}
	for _, k := range stokes(empty(12, 0), lightUp(12, 0)) {
		wantStop(t, calm(), append(scoured, k), 1, api.ErrState)
	}
	wantStop(t, calm(), stokes(charge(10, 0, 1), scour(11, 0)), 1, api.ErrState)
	for _, k := range everyKind(9, 1) {
		wantStop(t, calm(), stokes(charge(10, 0, 1), k), 1, api.ErrOrder)
	}
	wantStop(t, calm(), stokes(charge(10, 0, 1), charge(9, 0, 1)), 1, api.ErrOrder)
}

// TestFull checks the stokes of an hour, and the place of ErrFull among the errors.
func TestFull(t *testing.T) {
	for _, gang := range []int{1, 2, 5} {
		w := house()
		w.Gang = gang
		var l []api.Stoke
		for number := range gang {
			l = append(l, charge(4, number, 1))
		}
		wantOven(t, w, l, gang-1, api.Oven{State: api.Baking, Since: 4, Tons: 1, Runs: 1})
		for _, k := range everyKind(4, 0) {
			wantStop(t, w, append(l, k, charge(5, 7, 1)), gang, api.ErrFull)
		}
		wantStop(t, w, append(l, charge(4, 0, 0)), gang, api.ErrArg)
		wantStop(t, w, append(l, charge(3, 0, 1)), gang, api.ErrOrder)
		wantOven(t, w, append(l, charge(5, 7, 1)), 7, api.Oven{State: api.Baking, Since: 5, Tons: 1, Runs: 1})
		wantStop(t, w, append(l, charge(5, 7, 1), charge(4, 6, 1)), gang+1, api.ErrOrder)
	}
}

// TestFirstError checks that the first stoke with an error decides, whatever comes after it.
func TestFirstError(t *testing.T) {
	wantStop(t, house(), example(empty(14, 0), charge(14, 9, 0), charge(1, 0, 1)), 5, api.ErrState)
	wantStop(t, house(), example(charge(15, 0, 1), charge(-1, 0, 1)), 5, api.ErrRefuse)
	wantStop(t, house(), stokes(charge(-1, 0, 1), empty(3, 0)), 0, api.ErrArg)
	if _, e := retort.Make(house(), example(charge(15, 0, 1)), 6, 5); e != api.ErrRefuse {
		t.Errorf("Make has the error %d before that of Play", e)
	}
}

// TestAnyArguments calls all functions with numbers of all sizes: none of them panics or runs on, and none returns a result besides an error.
func TestAnyArguments(t *testing.T) {
	some := []int{math.MinInt, -2, -1, 0, 1, 2, 3, 4, 7, 8, last, last + 1, math.MaxInt}
	d := newDice(11)
	one := func() int { return some[d.roll(len(some))] }
	for range 5000 {
		w := house()
		for range d.roll(2) {
			w = api.House{Curve: make([]api.Span, d.roll(api.MaxCurve+3)), Least: one(), Runs: one(), Scurf: one(), Coolings: one(), Gang: one()}
		}
		if len(w.Curve) > 0 && d.roll(4) == 0 {
			w.Curve[d.roll(len(w.Curve))] = span(one(), one())
		}
		l := make([]api.Stoke, d.roll(5))
		for i := range l {
			l[i] = api.Stoke{Hour: one(), Retort: one(), Kind: one(), Tons: one()}
		}
		callAll(t, w, example(l...), one)
	}
}

func callAll(t *testing.T, w api.House, l []api.Stoke, one func() int) {
	t.Helper()
	ovens, index, e := retort.Play(w, l)
	if e != api.OK && ovens != [8]api.Oven{} || e == api.OK && index != len(l) {
		t.Errorf("Play of %v = %v, %d, error %d", l, ovens, index, e)
	}
	if s, e := retort.Make(w, l, one(), one()); e != api.OK && s != (api.Span{}) {
		t.Errorf("Make of %v = %v, error %d", l, s, e)
	}
	if hour, s, e := retort.Peak(w, l); e != api.OK && (hour != 0 || s != api.Span{}) {
		t.Errorf("Peak of %v = %d, %v, error %d", l, hour, s, e)
	}
	if hour, e := retort.Soonest(w, l, one()); e != api.OK && hour != 0 {
		t.Errorf("Soonest of %v = %d, error %d", l, hour, e)
	}
}
