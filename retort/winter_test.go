package retort_test

import (
	"reflect"
	"slices"
	"testing"

	"gasworks/api"
	"gasworks/retort"
)

// A dice rolls the same numbers in each run of the tests.
type dice struct{ at uint64 }

func newDice(seed uint64) *dice { return &dice{at: seed} }

func (d *dice) roll(n int) int {
	d.at = d.at*6364136223846793005 + 1442695040888963407
	return int(d.at >> 33 % uint64(n))
}

func smallHouse(d *dice) api.House {
	w := api.House{Curve: make([]api.Span, 1+d.roll(4)), Least: 1 + d.roll(3), Runs: 1 + d.roll(3), Scurf: 1 + d.roll(3), Coolings: d.roll(2), Gang: 1 + d.roll(3)}
	for k := range w.Curve {
		lo := d.roll(4)
		w.Curve[k] = span(lo, lo+d.roll(4))
	}
	return w
}

// anyStoke returns a stoke that can be done, or one that cannot, from the hour before this one on.
func anyStoke(d *dice, hour int) api.Stoke {
	k := api.Stoke{Hour: hour + d.roll(4) - d.roll(8)/7, Retort: d.roll(3), Kind: d.roll(5)}
	if k.Kind == api.Charge {
		k.Tons = 1 + d.roll(3)
	}
	if d.roll(40) == 0 {
		k.Tons = -1
	}
	return k
}

// after tells how a retort is, by all that was done with it, and not step by step.
func after(w api.House, l []api.Stoke, number int) api.Oven {
	var o api.Oven
	for _, k := range l {
		if k.Retort != number {
			continue
		}
		o.Since, o.Tons = k.Hour, k.Tons
		o.State = []int{api.Baking, api.Hot, api.Hot, api.Cold, api.Hot}[k.Kind]
		if k.Kind == api.Scour {
			o.Since += w.Scurf
			o.Runs = 0
		}
		if k.Kind == api.LightUp {
			o.Coolings++
		}
		if o.Coolings > w.Coolings {
			o.State = api.Cracked
		}
		o.Runs += []int{1, 0, 0, 0, 0}[k.Kind]
	}
	return o
}

// next tells the error of a stoke after others.
func next(w api.House, l []api.Stoke, k api.Stoke) api.Errno {
	o, same := after(w, l, k.Retort), 0
	for _, other := range l {
		if other.Hour == k.Hour {
			same++
		}
	}
	state := []int{api.Hot, api.Baking, api.Hot, api.Hot, api.Cold}[k.Kind]
	wait := []int{0, w.Least, 0, 0, 0}[k.Kind]
	switch {
	case k.Tons < 0 || k.Hour < 0 || k.Hour > last:
		return api.ErrArg
	case len(l) > 0 && k.Hour < l[len(l)-1].Hour:
		return api.ErrOrder
	case same >= w.Gang:
		return api.ErrFull
	case o.State != state:
		return api.ErrState
	case k.Hour < o.Since+wait:
		return api.ErrOrder
	case k.Kind == api.Charge && o.Runs == w.Runs:
		return api.ErrRefuse
	}
	return api.OK
}

// winter returns a house, and stokes that its gang did, from about an hour on. See gets each house with stokes, and a stoke that may come next.
func winter(d *dice, hour, tries int, see func(w api.House, l []api.Stoke, k api.Stoke)) (api.House, []api.Stoke) {
	w := smallHouse(d)
	var l []api.Stoke
	for range tries {
		k := anyStoke(d, hour)
		see(w, l, k)
		if next(w, l, k) == api.OK {
			l = append(l, k)
			hour = k.Hour
		}
	}
	return w, l
}

func seeNothing(api.House, []api.Stoke, api.Stoke) {}

// TestPlayWinters holds Play against what the history of each retort tells.
func TestPlayWinters(t *testing.T) {
	d := newDice(1)
	seen := map[api.Errno]int{}
	states := map[int]int{}
	see := func(w api.House, l []api.Stoke, k api.Stoke) {
		e := next(w, l, k)
		seen[e]++
		all := append(slices.Clone(l), k)
		if e != api.OK {
			wantStop(t, w, all, len(l), e)
			wantStop(t, w, append(all, charge(-1, 9, 0)), len(l), e)
			return
		}
		for number := range api.MaxRetort + 1 {
			o := after(w, all, number)
			states[o.State]++
			wantOven(t, w, all, number, o)
			if o.Runs > w.Runs {
				t.Errorf("the retort %d of %v had %d charges of %d", number, all, o.Runs, w.Runs)
			}
		}
	}
	for range 300 {
		winter(d, d.roll(5), 30, see)
		winter(d, last-8, 30, see)
	}
	for _, e := range []api.Errno{api.OK, api.ErrArg, api.ErrOrder, api.ErrFull, api.ErrState, api.ErrRefuse} {
		if seen[e] < 30 {
			t.Errorf("the error %d came only %d times", e, seen[e])
		}
	}
	if len(states) != 4 {
		t.Errorf("not all states came: %v", states)
	}
}

// gasOf tells the gas of one hour: a retort gives some if the last that was done with it is that it was charged.
func gasOf(w api.House, l []api.Stoke, hour int) api.Span {
	var all api.Span
	for number := range api.MaxRetort + 1 {
		var at api.Stoke
		for _, k := range l {
			if k.Retort == number && k.Hour <= hour {
				at = k
			}
		}
		if k := hour - at.Hour; at.Tons > 0 && k < len(w.Curve) {
			all.Lo += at.Tons * w.Curve[k].Lo
			all.Hi += at.Tons * w.Curve[k].Hi
		}
	}
	return all
}

// TestGasOfWinters holds Make and Peak against the gas of each hour.
func TestGasOfWinters(t *testing.T) {
	d := newDice(2)
	for i := range 400 {
		first := []int{0, 3, last - 12}[i%3]
		w, l := winter(d, first+1, 25, seeNothing)
		end := min(last, first+100)
		sums := []api.Span{{}}
		top, most := 0, api.Span{}
		for hour := first; hour <= end; hour++ {
			gas, all := gasOf(w, l, hour), sums[len(sums)-1]
			sums = append(sums, span(all.Lo+gas.Lo, all.Hi+gas.Hi))
			if gas.Hi > most.Hi {
				top, most = hour, gas
			}
		}
		wantPeak(t, w, l, top, most)
		for from := first; from <= end; from += 1 + d.roll(7) {
			to := from + d.roll(end-from+1)
			a, b := sums[from-first], sums[to-first+1]
			wantMake(t, w, l, from, to, span(b.Lo-a.Lo, b.Hi-a.Hi))
		}
		wantMake(t, w, l, 0, last, sums[len(sums)-1])
	}
}

// TestWholeCurve checks that a charge gives no more than its hundredweights times the curve, and just that if it is left in.
func TestWholeCurve(t *testing.T) {
	d := newDice(3)
	for range 300 {
		w := smallHouse(d)
		tons, hour := 1+d.roll(api.MaxCharge), d.roll(last-100)
		var all api.Span
		for _, s := range w.Curve {
			all = span(all.Lo+tons*s.Lo, all.Hi+tons*s.Hi)
		}
		left := stokes(charge(hour, 1, tons))
		wantMake(t, w, left, 0, last, all)
		wantMake(t, w, append(left, empty(hour+10, 1)), 0, last, all)
		s, e := retort.Make(w, append(left, empty(hour+w.Least, 1)), 0, last)
		if e != api.OK || s.Lo > all.Lo || s.Hi > all.Hi || w.Least >= len(w.Curve) && s != all {
			t.Errorf("a charge of %d in %v, emptied after %d hours, gives %v, error %d", tons, w, w.Least, s, e)
		}
	}
}

// canCharge tells whether a retort can be charged in an hour after no more than so many further stokes.
func canCharge(w api.House, l []api.Stoke, number, hour, further int) bool {
	if _, _, e := retort.Play(w, append(slices.Clone(l), charge(hour, number, 1))); e == api.OK {
		return true
	}
	if further == 0 {
		return false
	}
	first := 0
	if len(l) > 0 {
		first = l[len(l)-1].Hour
	}
	for h := first; h <= hour; h++ {
		for _, k := range stokes(empty(h, number), scour(h, number), charge(h, number, 1)) {
			all := append(slices.Clone(l), k)
			if _, _, e := retort.Play(w, all); e == api.OK && canCharge(w, all, number, hour, further-1) {
				return true
			}
		}
	}
	return false
}

// TestSoonestOfWinters holds Soonest against all further stokes that there are.
func TestSoonestOfWinters(t *testing.T) {
	d := newDice(4)
	late := 0
	for i := range 400 {
		w, l := winter(d, []int{0, 7, last - 6}[i%3], d.roll(25), seeNothing)
		first := 0
		if len(l) > 0 {
			first = l[len(l)-1].Hour
		}
		for number := range 4 {
			want, e := first, api.OK
			for want <= last && !canCharge(w, l, number, want, 3) && want < first+20 {
				want++
			}
			switch o := after(w, l, number); {
			case o.State == api.Cold || o.State == api.Cracked:
				want, e = 0, api.ErrState
			case want > last:
				want, e = 0, api.ErrOrder
				late++
			}
			wantSoonest(t, w, l, number, want, e)
		}
	}
	if late < 10 {
		t.Errorf("only %d retorts could not be charged again", late)
	}
}

// everything returns what all functions say of some stokes.
func everything(w api.House, l []api.Stoke) []any {
	ovens, index, e := retort.Play(w, l)
	hour, most, _ := retort.Peak(w, l)
	all := []any{ovens, index, e, hour, most}
	for h := range 30 {
		gas, _ := retort.Make(w, l, h, h+3)
		all = append(all, gas)
	}
	for number := range 4 {
		soonest, e := retort.Soonest(w, l, number)
		all = append(all, soonest, e)
	}
	return all
}

// TestOrderInAnHour checks that two stokes of an hour for different retorts can come in either order.
func TestOrderInAnHour(t *testing.T) {
	d := newDice(5)
	changed := 0
	for range 500 {
		w, l := winter(d, 0, 25, seeNothing)
		other := slices.Clone(l)
		for i := 1; i < len(other); i++ {
			a, b := other[i-1], other[i]
			if a.Hour == b.Hour && a.Retort != b.Retort {
				other[i-1], other[i] = b, a
				changed++
			}
		}
		if a, b := everything(w, l), everything(w, other); !reflect.DeepEqual(a, b) {
			t.Fatalf("%v comes to %v; in another order it is %v", l, a, b)
		}
	}
	if changed < 100 {
		t.Errorf("only %d stokes were changed", changed)
	}
}

// TestMemory checks that arguments stay as they are, and that no call changes what another one returns.
func TestMemory(t *testing.T) {
	w := house()
	for range 3 {
		l := append(make([]api.Stoke, 0, 60), example()...)
		full := l[:cap(l)]
		before := slices.Clone(full)
		results := everything(w, l)
		if !reflect.DeepEqual(results, everything(house(), example())) {
			t.Fatalf("the results are %v", results)
		}
		everything(w, append(slices.Clone(l), charge(15, 0, 1)))
		if !reflect.DeepEqual(w, house()) || !slices.Equal(full, before) {
			t.Fatalf("the arguments are %v and %v", w, full)
		}
	}
}
