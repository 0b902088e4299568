package balance_test

import (
	"math"
	"slices"
	"testing"

	"gasworks/api"
	"gasworks/balance"
)

// wantNotValid checks that a plant is not valid, whatever else is asked of it.
func wantNotValid(t *testing.T, name string, p api.Plant) {
	t.Helper()
	if l, e := balance.Truth(p); e != api.ErrArg || len(l) != 0 {
		t.Errorf("%s: Truth = %v, error %d; want ErrArg", name, l, e)
	}
	if l, e := balance.Tight(p); e != api.ErrArg || len(l) != 0 {
		t.Errorf("%s: Tight = %v, error %d; want ErrArg", name, l, e)
	}
	if l, e := balance.Wrong(p); e != api.ErrArg || len(l) != 0 {
		t.Errorf("%s: Wrong = %v, error %d; want ErrArg", name, l, e)
	}
	for _, number := range []int{math.MinInt, -1, 0, 5, api.MaxFlows, math.MaxInt} {
		wantWhyError(t, name, p, number, least, api.ErrArg)
		wantWhyError(t, name, p, number, most, api.ErrArg)
	}
}

func TestPlantsThatAreNotValid(t *testing.T) {
	for name, spoil := range map[string]func(p *api.Plant){
		"nothing":                func(p *api.Plant) { *p = api.Plant{} },
		"one place":              func(p *api.Plant) { *p = plant(1) },
		"places below 0":         func(p *api.Plant) { *p = plant(-2) },
		"the least places":       func(p *api.Plant) { p.Places = math.MinInt },
		"too many places":        func(p *api.Plant) { p.Places = api.MaxPlaces + 1 },
		"the most places":        func(p *api.Plant) { p.Places = math.MaxInt },
		"too many flows":         func(p *api.Plant) { p.Flows = make([]api.Flow, api.MaxFlows+1) },
		"too many valid flows":   func(p *api.Plant) { *p = plant(2, slices.Repeat([]api.Flow{flow(0, 1, 0, 0)}, api.MaxFlows+1)...) },
		"from below 0":           func(p *api.Plant) { p.Flows[0].From = -1 },
		"from no place":          func(p *api.Plant) { p.Flows[5].From = 4 },
		"from the least number":  func(p *api.Plant) { p.Flows[5].From = math.MinInt },
		"to below 0":             func(p *api.Plant) { p.Flows[1].To = -1 },
		"to no place":            func(p *api.Plant) { p.Flows[4].To = 4 },
		"to the greatest number": func(p *api.Plant) { p.Flows[4].To = math.MaxInt },
		"to the same place":      func(p *api.Plant) { p.Flows[3].To = 2 },
		"from outside to there":  func(p *api.Plant) { p.Flows[0].To = 0 },
		"too few places":         func(p *api.Plant) { p.Places = 3 },
		"Gas below 0":            func(p *api.Plant) { p.Flows[4].Gas.Lo = -1 },
		"Gas wrong way":          func(p *api.Plant) { p.Flows[5].Gas = span(6, 5) },
		"Gas too great":          func(p *api.Plant) { p.Flows[0].Gas.Hi = api.MaxGas + 1 },
		"Gas of all":             func(p *api.Plant) { p.Flows[0].Gas = span(math.MinInt, math.MaxInt) },
		"Gas of none":            func(p *api.Plant) { p.Flows[0].Gas = span(math.MaxInt, math.MinInt) },
		"Gas far too great":      func(p *api.Plant) { p.Flows[0].Gas = span(math.MaxInt, math.MaxInt) },
		"wrong before not valid": func(p *api.Plant) { *p = plant(2, flow(0, 1, 1, 1), flow(1, 1, 1, 1)) },
	} {
		t.Run(name, func(t *testing.T) {
			p := example()
			spoil(&p)
			wantNotValid(t, name, p)
		})
	}
}

func TestPlantsAtTheirLimits(t *testing.T) {
	p := example()
	p.Places = api.MaxPlaces
	wantTruth(t, "places without flows", p, 100, 90, 10, 80, 10, 80)
	full := plant(2, slices.Repeat([]api.Flow{flow(0, 1, 0, api.MaxGas)}, api.MaxFlows)...)
	wantTruth(t, "as many flows as there can be", full, make([]int, api.MaxFlows)...)
	wantTruth(t, "the last place", plant(8, flow(7, 6, 0, 3), flow(6, 7, 2, 2)), 2, 2)
	wantTruth(t, "no gas", plant(2, flow(0, 1, 0, 0), flow(1, 0, 0, 0)), 0, 0)
}

// TestFlowsThatAreNone checks that an index comes before what the flows tell, and that flows without a truth come before what is asked of them.
func TestFlowsThatAreNone(t *testing.T) {
	for _, number := range []int{math.MinInt, -1, 6, api.MaxFlows, math.MaxInt} {
		for _, end := range []bool{least, most} {
			wantWhyError(t, "an example", example(), number, end, api.ErrRange)
			wantWhyError(t, "without a truth", burnt(101, 102), number, end, api.ErrRange)
		}
	}
	wantWhyError(t, "without a truth", burnt(101, 102), 5, most, api.ErrState)
	wantWhyError(t, "an end of its Gas, without a truth", burnt(101, 102), 0, least, api.ErrState)
}

// TestAnyArguments calls all functions with numbers of all sizes: none of them panics or runs on, and none returns a result besides an error.
func TestAnyArguments(t *testing.T) {
	some := []int{math.MinInt, -1, 0, 1, 2, 5, 8, 9, 1 << 30, 1<<30 + 1, math.MaxInt}
	d := newDice(9)
	for range 3000 {
		one := func() int { return some[d.roll(len(some))] }
		p := plant(d.roll(10))
		for range d.roll(18) {
			p.Flows = append(p.Flows, flow(d.roll(3), d.roll(3), d.roll(3), 2+d.roll(9)))
		}
		if d.roll(2) == 0 {
			p.Places = one()
		}
		if len(p.Flows) > 0 && d.roll(2) == 0 {
			p.Flows[d.roll(len(p.Flows))] = flow(one(), one(), one(), one())
		}
		truth, e := balance.Truth(p)
		wantNoResult(t, "Truth", p, e, len(truth))
		tight, e := balance.Tight(p)
		wantNoResult(t, "Tight", p, e, len(tight))
		why, e := balance.Why(p, one(), d.roll(2) == 0)
		wantNoResult(t, "Why", p, e, len(why))
		wrong, e := balance.Wrong(p)
		wantNoResult(t, "Wrong", p, e, len(wrong))
	}
}

func wantNoResult(t *testing.T, name string, p api.Plant, e api.Errno, n int) {
	t.Helper()
	if e != api.OK && n != 0 {
		t.Errorf("%s of %v: a result with the error %d", name, p, e)
	}
}
