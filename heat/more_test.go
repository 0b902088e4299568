package heat_test

import (
	"reflect"
	"slices"
	"testing"

	"gasworks/api"
	"gasworks/heat"
)

// within returns a number of a span: often one of its ends.
func (d *dice) within(s api.Span) int {
	switch d.roll(3) {
	case 0:
		return s.Lo
	case 1:
		return s.Hi
	}
	return s.Lo + d.roll(s.Hi-s.Lo+1)
}

// some returns a number of each span.
func (d *dice) some(spans []api.Span) []int {
	var l []int
	for _, s := range spans {
		l = append(l, d.within(s))
	}
	return l
}

// An order is what is asked of Mix.
type order struct {
	supplies            []api.Supply
	volume, least, most int
}

// anyOrder returns an order of supplies of any size, and some mixture of them which is often right.
func anyOrder(d *dice) (order, []int) {
	o := order{supplies: largeSupplies(d, 1+d.roll(4))}
	var parts []int
	cold, hot := 0, 0
	for _, s := range o.supplies {
		n := d.within(span(0, s.Most))
		parts = append(parts, n)
		cold, hot = cold+n*s.Heat.Lo, hot+n*s.Heat.Hi
	}
	o.volume = max(1, volumeOf(o.supplies, parts))
	o.least = max(0, min(api.MaxHeat, cold/o.volume-d.roll(2)*d.roll(300)))
	o.most = max(o.least, min(api.MaxHeat, hot/o.volume+1+d.roll(2)*d.roll(300)))
	return o, parts
}

// mix returns the mixture, and its cost.
func (o order) mix() ([]int, int, api.Errno) {
	return heat.Mix(o.supplies, o.volume, o.least, o.most)
}

// allows tells whether a mixture has the volume, and these heats of its parts are as they must be.
func (o order) allows(heats, parts []int) bool {
	sum := heatOf(heats, parts)
	return volumeOf(o.supplies, parts) == o.volume && o.least*o.volume <= sum && sum <= o.most*o.volume
}

// TestMixturesAreRight checks that a mixture is right for any heat of its parts, and that no right one is cheaper.
func TestMixturesAreRight(t *testing.T) {
	d := newDice(6)
	found, dearer := 0, 0
	for range 2000 {
		o, other := anyOrder(d)
		parts, cost, e := o.mix()
		isOther := isRightAtEnds(o.supplies, other, o.volume, o.least, o.most)
		if e != api.OK {
			if e != api.ErrNone || isOther {
				t.Errorf("Mix of %v has the error %d; there is %v", o, e, other)
			}
			continue
		}
		found++
		for range 20 {
			if heats := d.some(allHeats(o.supplies)); !o.allows(heats, parts) {
				t.Errorf("Mix of %v = %v, which is not right for the heats %v", o, parts, heats)
			}
		}
		for i, n := range parts {
			if !contains(allParts(o.supplies)[i], span(n, n)) {
				t.Errorf("Mix of %v = %v, which is more than there is", o, parts)
			}
		}
		own := costOf(o.supplies, other)
		if cost != costOf(o.supplies, parts) || isOther && own < cost {
			t.Errorf("Mix of %v = %v, %d; %v costs %d", o, parts, cost, other, own)
		}
		if isOther && own > cost {
			dearer++
		}
	}
	if found < 500 || dearer < 200 {
		t.Errorf("%d mixtures were found, and %d of them cost less than another one", found, dearer)
	}
}

// wantNoDearer checks that an order costs no more than another one.
func wantNoDearer(t *testing.T, name string, o, than order) bool {
	t.Helper()
	_, cost, e := o.mix()
	_, before, was := than.mix()
	if was == api.OK && (e != api.OK || cost > before) {
		t.Errorf("%s: Mix of %v costs %d, error %d; of %v %d", name, o, cost, e, than, before)
	}
	return e == api.OK && (was != api.OK || cost < before)
}

// TestMoreSupplies checks that with a supply more, or more parts of one, a mixture costs no more.
func TestMoreSupplies(t *testing.T) {
	d := newDice(7)
	cheaper := 0
	for range 3000 {
		o, _ := anyOrder(d)
		more := o
		at := d.roll(len(o.supplies))
		more.supplies = slices.Clone(o.supplies)
		more.supplies[at].Most = min(api.MaxParts, more.supplies[at].Most+1+d.roll(5))
		if wantNoDearer(t, "more parts", more, o) {
			cheaper++
		}
		if len(o.supplies) == api.MaxSupplies {
			continue
		}
		more.supplies = slices.Insert(slices.Clone(o.supplies), at, largeSupplies(d, 1)...)
		if wantNoDearer(t, "a supply more", more, o) {
			cheaper++
		}
		more.supplies[at] = api.Supply{}
		if wantNoDearer(t, "a supply of which there is nothing", more, o) {
			t.Errorf("Mix of %v costs less than that of %v", more, o)
		}
	}
	if cheaper < 200 {
		t.Errorf("only %d mixtures became cheaper", cheaper)
	}
}

// TestWiderHeats checks that a mixture costs no more where more heats are allowed, or its parts are known better.
func TestWiderHeats(t *testing.T) {
	d := newDice(8)
	cheaper := 0
	for range 1500 {
		o, _ := anyOrder(d)
		wider := o
		wider.least, wider.most = max(0, o.least-d.roll(300)), min(api.MaxHeat, o.most+d.roll(300))
		known := o
		known.supplies = slices.Clone(o.supplies)
		for i, h := range d.some(allHeats(o.supplies)) {
			known.supplies[i].Heat = span(h, h)
		}
		if wantNoDearer(t, "wider", wider, o) || wantNoDearer(t, "known better", known, o) {
			cheaper++
		}
	}
	if cheaper < 200 {
		t.Errorf("only %d mixtures became cheaper", cheaper)
	}
}

// largeTests returns tests of any size, whose hours are near each other.
func largeTests(d *dice) []api.Test {
	var l []api.Test
	first := d.roll(api.MaxHour - 200)
	for range d.roll(api.MaxTests + 1) {
		l = append(l, api.Test{Hour: first + d.roll(200), Station: d.roll(16), Heat: d.span(900, api.MaxHeat)})
	}
	return l
}

// largeDecree returns a decree that is near the heat of the tests.
func largeDecree(d *dice) api.Decree {
	declared := 4000 + d.roll(3000)
	return api.Decree{Window: 1 + d.roll(100), Declared: declared, Slack: d.roll(1000), Pay: d.roll(1 + d.roll(1_000_001))}
}

// measured returns the tests, each with one heat of its span.
func measured(l []api.Test, heatOf func(s api.Span) int) []api.Test {
	other := slices.Clone(l)
	for i, t := range l {
		h := heatOf(t.Heat)
		other[i].Heat = span(h, h)
	}
	return other
}

// TestTrueHeats checks that what is due for any heats is within what is told, is 0 if the window is kept, and that both ends are reached.
func TestTrueHeats(t *testing.T) {
	d := newDice(9)
	seen := [3]int{}
	for range 1500 {
		decree, l := largeDecree(d), largeTests(d)
		if len(l) == 0 {
			continue
		}
		hour := l[d.roll(len(l))].Hour
		kept, _ := heat.Kept(decree, l, hour)
		due, e := heat.Due(decree, l, hour)
		if e != api.OK || due.Lo > due.Hi {
			t.Fatalf("Due of %v, %v, %d = %v, error %d", decree, l, hour, due, e)
		}
		seen[kept]++
		for _, pick := range []func(s api.Span) int{d.within, d.within, func(s api.Span) int { return s.Lo }, func(s api.Span) int { return s.Hi }} {
			truth := measured(l, pick)
			k, _ := heat.Kept(decree, truth, hour)
			own, _ := heat.Due(decree, truth, hour)
			if k == api.Maybe || own.Lo != own.Hi || !contains(due, own) || k == api.Always && own != span(0, 0) {
				t.Errorf("of %v, %v in %d %d, %v is said; of all truths %d, %v", decree, truth, hour, k, own, kept, due)
			}
			if kept != api.Maybe && k != kept {
				t.Errorf("Kept of %v, %v, %d = %d; of a truth %d", decree, l, hour, kept, k)
			}
		}
		cold, _ := heat.Due(decree, measured(l, func(s api.Span) int { return s.Lo }), hour)
		hot, _ := heat.Due(decree, measured(l, func(s api.Span) int { return s.Hi }), hour)
		if due != span(hot.Lo, cold.Hi) {
			t.Errorf("Due of %v, %v, %d = %v; the ends are %v and %v", decree, l, hour, due, hot, cold)
		}
	}
	if slices.Min(seen[:]) < 50 {
		t.Errorf("the windows were kept %v times", seen)
	}
}

// TestWorstIsWorst checks that in no hour with a test Kept returns less than in the worst one, nor the same earlier.
func TestWorstIsWorst(t *testing.T) {
	d := newDice(10)
	for range 1000 {
		decree, l := largeDecree(d), largeTests(d)
		hour, kept, e := heat.Worst(decree, l)
		if (e == api.OK) != (len(l) > 0) {
			t.Errorf("Worst of %v, %v has the error %d", decree, l, e)
		}
		for _, test := range l {
			k, _ := heat.Kept(decree, l, test.Hour)
			if k < kept || k == kept && test.Hour < hour || test.Hour == hour && k != kept {
				t.Errorf("Worst of %v, %v = %d, %d; in %d it is %d", decree, l, hour, kept, test.Hour, k)
			}
		}
	}
}

// A view is all that is said of tests.
type view struct {
	numbers [7]int
	due     api.Span
	errors  [4]api.Errno
}

// viewOf returns what is said of the tests by a decree, in an hour, and of two periods of 30 hours.
func viewOf(d api.Decree, l []api.Test, hour int) view {
	var v view
	v.numbers[0], v.errors[0] = heat.Kept(d, l, hour)
	v.due, v.errors[1] = heat.Due(d, l, hour)
	v.numbers[1], v.numbers[2], v.errors[2] = heat.Worst(d, l)
	v.numbers[3], v.numbers[4], _ = heat.Missed(l, 3, 30, span(hour, hour+99))
	v.numbers[5], v.numbers[6], v.errors[3] = heat.Missed(l, 1, 30, span(max(0, hour-30), hour+30))
	return v
}

// TestAnyOrder checks that the order of the tests makes no difference.
func TestAnyOrder(t *testing.T) {
	d := newDice(11)
	for range 1500 {
		decree, l := largeDecree(d), largeTests(d)
		if d.roll(2) == 0 {
			l = manyTests(d)
		}
		if len(l) == 0 {
			continue
		}
		hour := l[0].Hour
		other := shuffled(d, l)
		if a, b := viewOf(decree, l, hour), viewOf(decree, other, hour); a != b {
			t.Errorf("of %v, %v in %d %v is said, and of %v %v", decree, l, hour, a, other, b)
		}
	}
}

// TestNothingMissed checks that where nothing was missed each station has a test in any period of the hours, and that before the first miss it has.
func TestNothingMissed(t *testing.T) {
	d := newDice(12)
	none, missed := 0, 0
	for range 3000 {
		l := manyTests(d)
		stations, period := 1+d.roll(3), 5+d.roll(20)
		hours := d.span(40, 40)
		hour, station, e := heat.Missed(l, stations, period, hours)
		end := hours.Hi
		if e == api.OK {
			missed++
			end = hour - 1
			if isTested(l, station, span(hour-period+1, hour)) || station >= stations {
				t.Errorf("Missed of %v, %d, %d, %v = %d, %d; there was a test", l, stations, period, hours, hour, station)
			}
		} else if hours.Hi-hours.Lo >= period {
			none++
		}
		for from := hours.Lo; from+period-1 <= end; from++ {
			for s := range stations {
				if !isTested(l, s, span(from, from+period-1)) {
					t.Errorf("Missed of %v, %d, %d, %v = %d, %d, error %d; the station %d has no test from %d on", l, stations, period, hours, hour, station, e, s, from)
				}
			}
		}
	}
	if min(none, missed) < 200 {
		t.Errorf("%d times nothing was missed, %d times something", none, missed)
	}
}

// TestArgumentsAreOnlyRead checks that no argument is changed, nor what lies behind its list, and that results are new memory.
func TestArgumentsAreOnlyRead(t *testing.T) {
	d := newDice(13)
	for range 300 {
		o, _ := anyOrder(d)
		supplies := append(o.supplies, api.Supply{Most: -7}, api.Supply{Most: -8})
		o.supplies = supplies[:len(supplies)-2]
		wasSupplies := slices.Clone(supplies)
		parts, _, e := o.mix()
		same := slices.Clone(parts)
		again, _, _ := o.mix()
		for i := range parts {
			parts[i] = -1
		}
		if third, _, e2 := o.mix(); !slices.Equal(again, same) || !slices.Equal(third, same) || e != e2 {
			t.Errorf("of %v first %v is said, then %v and %v", o, same, again, third)
		}
		decree, l := largeDecree(d), append(manyTests(d), api.Test{Hour: -7}, api.Test{Hour: -8})
		wasTests := slices.Clone(l)
		first := viewOf(decree, l[:len(l)-2], 20)
		if second := viewOf(decree, l[:len(l)-2], 20); first != second {
			t.Errorf("of %v first %v is said, then %v", l, first, second)
		}
		if !reflect.DeepEqual(supplies, wasSupplies) || !reflect.DeepEqual(l, wasTests) {
			t.Errorf("%v and %v have become %v and %v", wasSupplies, wasTests, supplies, l)
		}
	}
}
