package penny_test

import (
	"reflect"
	"slices"
	"testing"

	"gasworks/api"
	"gasworks/penny"
)

// bigSlot returns a slot meter of any size, with so many pennies at most, and without marks.
func bigSlot(d *dice, coins int) api.Slot {
	hold := 1 + d.roll(1+d.roll(api.MaxHold))
	s := api.Slot{Hold: hold, Start: d.roll(hold + 1), Coins: d.roll(coins + 1), Now: d.roll(1 + d.roll(api.MaxHour-200))}
	for hour := 0; hour <= s.Now && len(s.Tariffs) < 1+d.roll(api.MaxTariffs); hour += 1 + d.roll(1+s.Now/3) {
		s.Tariffs = append(s.Tariffs, api.Tariff{From: hour, Feet: 1 + d.roll(hold)})
	}
	return s
}

// A truth is when pennies were put in, what had been used by the end of some hours, and what credit was left at last.
type truth struct {
	hours []int
	ends  []api.Mark
	left  int
}

// someHours returns some hours in their order: the first, the last, those at changes of the tariff, and others.
func someHours(d *dice, s *api.Slot) []int {
	l := []int{s.Now}
	for _, t := range s.Tariffs {
		l = append(l, t.From)
		if t.From > 0 {
			l = append(l, t.From-1)
		}
	}
	for range 12 {
		l = append(l, d.roll(s.Now+1))
	}
	slices.Sort(l)
	return slices.Compact(l)
}

// anyTruth puts in all pennies of a slot meter in some of its hours, and uses gas in between.
func anyTruth(d *dice, s *api.Slot) truth {
	var tr truth
	credit, used := s.Start, 0
	// use takes at least what makes room for a penny, and sometimes no more than that.
	use := func(room int) {
		gas := max(0, credit+room-s.Hold)
		if d.roll(2) == 0 {
			gas += d.roll(credit - gas + 1)
		}
		credit, used = credit-gas, used+gas
	}
	hours := someHours(d, s)
	for range s.Coins {
		tr.hours = append(tr.hours, hours[d.roll(len(hours))])
	}
	for _, hour := range hours {
		for _, h := range tr.hours {
			if h == hour {
				use(feetAt(*s, hour))
				credit += feetAt(*s, hour)
			}
		}
		use(0)
		tr.ends = append(tr.ends, mark(hour, used))
	}
	tr.left = credit
	return tr
}

// some returns up to so many true marks, of any hours and in any order, and hours of the pennies in any order.
func (tr truth) some(d *dice, marks int) ([]int, []api.Mark) {
	return shuffled(d, tr.hours), shuffled(d, tr.ends)[:min(marks, len(tr.ends))]
}

// contains tells whether a span contains another one.
func contains(s, other api.Span) bool {
	return s.Lo <= other.Lo && other.Hi <= s.Hi
}

// A view is all that is said of a slot meter.
type view struct {
	coins        []api.Span
	bought, left api.Span
	errors       [3]api.Errno
}

func viewOf(s api.Slot) view {
	var v view
	v.coins, v.errors[0] = penny.Coins(s)
	v.bought, v.errors[1] = penny.Bought(s)
	v.left, v.errors[2] = penny.Left(s)
	return v
}

// right tells whether the slot meter has a course.
func (v view) right() bool {
	return v.errors == [3]api.Errno{}
}

// contains tells whether no span is narrower than that of another view.
func (v view) contains(other view) bool {
	return slices.EqualFunc(v.coins, other.coins, contains) && contains(v.bought, other.bought) && contains(v.left, other.left)
}

// TestTruePennies checks that what was truly put in, bought and left is within what is told, and so is what Play says of it.
func TestTruePennies(t *testing.T) {
	d := newDice(4)
	for range 1500 {
		s := bigSlot(d, 14)
		tr := anyTruth(d, &s)
		var hours []int
		hours, s.Marks = tr.some(d, d.roll(api.MaxMarks+1))
		v := viewOf(s)
		bought, left, hour, e := penny.Play(s, hours)
		if !v.right() || e != api.OK || hour != s.Now {
			t.Fatalf("of %v the errors are %v, and for %v %d at %d", s, v.errors, hours, e, hour)
		}
		own := 0
		for _, h := range hours {
			own += feetAt(s, h)
		}
		if bought != own || !contains(left, span(tr.left, tr.left)) {
			t.Errorf("Play of %v, %v = %d, %v; it was %d, %d", s, hours, bought, left, own, tr.left)
		}
		if !contains(v.bought, span(bought, bought)) || !contains(v.left, left) {
			t.Errorf("of %v %v is said, and for %v %d, %v", s, v, hours, bought, left)
		}
		for i, n := range countsOf(s, hours) {
			if !contains(v.coins[i], span(n, n)) {
				t.Errorf("Coins of %v = %v; of the tariff %d it was %d", s, v.coins, i, n)
			}
		}
	}
}

// TestAnyOrder checks that the order of marks and of pennies makes no difference, nor a mark that is there twice.
func TestAnyOrder(t *testing.T) {
	d := newDice(5)
	twice := 0
	for range 1000 {
		s := bigSlot(d, 10)
		tr := anyTruth(d, &s)
		_, s.Marks = tr.some(d, d.roll(8))
		if n := len(s.Marks); n > 0 && d.roll(3) == 0 {
			s.Marks[d.roll(n)].Used += d.roll(2 * s.Hold)
		}
		other := s
		more := shuffled(d, s.Marks)[:min(len(s.Marks), d.roll(5))]
		other.Marks = shuffled(d, append(slices.Clone(s.Marks), more...))
		if len(more) > 0 {
			twice++
		}
		if a, b := viewOf(s), viewOf(other); !reflect.DeepEqual(a, b) {
			t.Errorf("of %v %v is said, and of %v %v", s, a, other, b)
		}
		hours := shuffled(d, tr.hours)
		b1, l1, h1, e1 := penny.Play(s, tr.hours)
		b2, l2, h2, e2 := penny.Play(other, hours)
		if b1 != b2 || l1 != l2 || h1 != h2 || e1 != e2 {
			t.Errorf("Play of %v, %v = %d, %v, %d, error %d; of %v, %v = %d, %v, %d, error %d", s, tr.hours, b1, l1, h1, e1, other, hours, b2, l2, h2, e2)
		}
	}
	if twice < 200 {
		t.Errorf("only %d slot meters had marks twice", twice)
	}
}

// TestOneMarkMore checks that with one mark more no span is wider.
func TestOneMarkMore(t *testing.T) {
	d := newDice(6)
	narrower, wrong := 0, 0
	for range 1500 {
		s := bigSlot(d, 10)
		tr := anyTruth(d, &s)
		_, s.Marks = tr.some(d, d.roll(6))
		before := viewOf(s)
		more := tr.ends[d.roll(len(tr.ends))]
		changed := d.roll(3) == 0
		if changed {
			more.Used += d.roll(2 * s.Hold)
		}
		s.Marks = slices.Insert(slices.Clone(s.Marks), d.roll(len(s.Marks)+1), more)
		after := viewOf(s)
		switch {
		case !after.right() && changed:
			wrong++
		case !after.right() || !before.contains(after):
			t.Errorf("of %v %v is said; without %v %v", s, after, more, before)
		case !after.contains(before):
			narrower++
		}
	}
	if min(narrower, wrong) < 50 {
		t.Errorf("%d marks made a span narrower, with %d no course was left", narrower, wrong)
	}
}

// TestTariffThatGoesOn checks that a tariff with the same Feet as the one before it changes nothing in what is bought and left, nor in the pennies of others.
func TestTariffThatGoesOn(t *testing.T) {
	d := newDice(8)
	checked := 0
	for range 1500 {
		s := bigSlot(d, 10)
		_, s.Marks = anyTruth(d, &s).some(d, d.roll(8))
		at := d.roll(len(s.Tariffs))
		last := s.Now
		if at+1 < len(s.Tariffs) {
			last = s.Tariffs[at+1].From - 1
		}
		from := s.Tariffs[at].From
		if len(s.Tariffs) == api.MaxTariffs || from == last {
			continue
		}
		checked++
		other := s
		other.Tariffs = slices.Insert(slices.Clone(s.Tariffs), at+1, api.Tariff{From: from + 1 + d.roll(last-from), Feet: s.Tariffs[at].Feet})
		a, b := viewOf(s), viewOf(other)
		if !a.right() || !b.right() || a.bought != b.bought || a.left != b.left {
			t.Errorf("of %v %v is said, and of %v %v", s, a, other, b)
			continue
		}
		rest := slices.Delete(slices.Clone(b.coins), at, at+2)
		if !slices.Equal(slices.Delete(slices.Clone(a.coins), at, at+1), rest) || max(b.coins[at].Hi, b.coins[at+1].Hi) > a.coins[at].Hi {
			t.Errorf("Coins of %v = %v, and of %v %v", s, a.coins, other, b.coins)
		}
	}
	if checked < 300 {
		t.Errorf("only %d tariffs went on", checked)
	}
}

// TestGreaterHold checks that with a greater Hold no span is narrower.
func TestGreaterHold(t *testing.T) {
	d := newDice(9)
	wider := 0
	for range 1500 {
		s := bigSlot(d, 10)
		_, s.Marks = anyTruth(d, &s).some(d, 1+d.roll(8))
		before := viewOf(s)
		s.Hold = min(api.MaxHold, s.Hold+1+d.roll(s.Hold))
		after := viewOf(s)
		if !after.right() || !after.contains(before) {
			t.Errorf("of %v %v is said; with a lesser Hold %v", s, after, before)
		}
		if !before.contains(after) {
			wider++
		}
	}
	if wider < 200 {
		t.Errorf("only %d slot meters had a wider span", wider)
	}
}

// TestArgumentsAreOnlyRead checks that no argument is changed, nor what lies behind its lists, and that results are new memory.
func TestArgumentsAreOnlyRead(t *testing.T) {
	d := newDice(10)
	for range 300 {
		s := bigSlot(d, 8)
		tr := anyTruth(d, &s)
		hours, marks := tr.some(d, 8)
		hours, marks = append(hours, -7, -8), append(marks, mark(-7, -7), mark(-8, -8))
		tariffs := append(s.Tariffs, api.Tariff{From: -7})
		was := []any{slices.Clone(hours), slices.Clone(marks), slices.Clone(tariffs)}
		s.Marks, s.Tariffs = marks[:len(marks)-2], tariffs[:len(tariffs)-1]
		first := viewOf(s)
		coins, _ := penny.Coins(s)
		for i := range coins {
			coins[i] = span(-1, -1)
		}
		if _, _, _, e := penny.Play(s, hours[:s.Coins]); e != api.OK {
			t.Errorf("Play of %v, %v has the error %d", s, hours[:s.Coins], e)
		}
		if second := viewOf(s); !reflect.DeepEqual(first, second) {
			t.Errorf("of %v first %v is said, then %v", s, first, second)
		}
		if !reflect.DeepEqual(was, []any{hours, marks, tariffs}) {
			t.Errorf("%v have become %v, %v and %v", was, hours, marks, tariffs)
		}
	}
}
