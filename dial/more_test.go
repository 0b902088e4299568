package dial_test

import (
	"reflect"
	"slices"
	"testing"

	"gasworks/api"
	"gasworks/dial"
)

// A cellar is a meter with what goes through it and what it shows, hour by hour from an hour on.
type cellar struct {
	dial       api.Dial
	first      int
	gas, shows []int
}

// anyCellar returns a meter of any size over so many hours. One that sticks counts less than goes through in some of them.
func anyCellar(d *dice, hours int) cellar {
	lo := d.roll(api.MaxRate + 1)
	c := cellar{first: d.roll(api.MaxHour - hours), dial: api.Dial{
		Digits: 1 + d.roll(api.MaxDigits),
		Rate:   span(lo, min(api.MaxRate, lo+d.roll(1<<d.roll(14)))),
		Sticks: d.roll(3) == 0,
	}}
	shows := d.roll(turnOf(c.dial))
	for range hours {
		c.shows = append(c.shows, shows)
		gas := c.dial.Rate.Lo + d.roll(c.dial.Rate.Hi-c.dial.Rate.Lo+1)
		c.gas = append(c.gas, gas)
		if c.dial.Sticks && d.roll(4) == 0 {
			gas = d.roll(gas + 1)
		}
		shows = (shows + gas) % turnOf(c.dial)
	}
	c.shows = append(c.shows, shows)
	return c
}

// read returns a reading of the meter, so many hours after the first one.
func (c cellar) read(hours int) api.Card { return card(c.first+hours, c.shows[hours]) }

// round returns a round with some readings of the meter, in any order.
func (c cellar) round(d *dice, readings int) api.Round {
	r := api.Round{Dials: []api.Dial{c.dial}}
	for range readings {
		r.Cards = append(r.Cards, c.read(d.roll(len(c.shows))))
	}
	return r
}

// hours returns two hours of the meter, in their order.
func (c cellar) hours(d *dice) (from, to int) {
	a, b := c.first+d.roll(len(c.shows)), c.first+d.roll(len(c.shows))
	return min(a, b), max(a, b)
}

// mustGas returns the span of the gas between two hours, of a house whose readings fit.
func mustGas(t *testing.T, r api.Round, from, to int) api.Span {
	t.Helper()
	s, e := dial.Gas(r, 0, from, to)
	if e != api.OK || s.Lo > s.Hi {
		t.Errorf("Gas of %v between %d and %d = %v, error %d", r, from, to, s, e)
	}
	return s
}

// contains tells whether a span contains another one.
func contains(s, other api.Span) bool {
	return s.Lo <= other.Lo && other.Hi <= s.Hi
}

// TestTrueGas checks that what went through a meter is within what is told.
func TestTrueGas(t *testing.T) {
	d := newDice(3)
	known, doubtful := 0, 0
	for range 2000 {
		c := anyCellar(d, 1+d.roll(40))
		r := c.round(d, d.roll(10))
		wantSuspects(t, "true", r, 0, api.ErrNone)
		l := readings(r, 0)
		pairs, e := dial.Pairs(r, 0)
		if e != api.OK || len(pairs) != max(0, len(l)-1) {
			t.Fatalf("Pairs of %v = %v, error %d", r, pairs, e)
		}
		for i, s := range pairs {
			n := between(c.gas, c.first, l[i].Hour, l[i+1].Hour)
			if !contains(s, span(n, n)) {
				t.Errorf("Pairs of %v = %v; the gas of the pair %d is %d", r, pairs, i, n)
			}
			if s != mustGas(t, r, l[i].Hour, l[i+1].Hour) {
				t.Errorf("Pairs of %v = %v; Gas of the pair %d is different", r, pairs, i)
			}
		}
		from, to := c.hours(d)
		n := between(c.gas, c.first, from, to)
		s := mustGas(t, r, from, to)
		if !contains(s, span(n, n)) {
			t.Errorf("Gas of %v between %d and %d = %v; it is %d", r, from, to, s, n)
		}
		if s.Lo == s.Hi {
			known++
		} else {
			doubtful++
		}
	}
	if min(known, doubtful) < 100 {
		t.Errorf("%d spans were of one number, %d of several", known, doubtful)
	}
}

// TestOneReadingMore checks that with a reading more that fits the truth no span is wider.
func TestOneReadingMore(t *testing.T) {
	d := newDice(4)
	narrower := 0
	for range 3000 {
		c := anyCellar(d, 1+d.roll(20))
		r := c.round(d, d.roll(6))
		from, to := c.hours(d)
		before := mustGas(t, r, from, to)
		more := c.read(d.roll(len(c.shows)))
		r.Cards = slices.Insert(r.Cards, d.roll(len(r.Cards)+1), more)
		after := mustGas(t, r, from, to)
		if !contains(before, after) {
			t.Errorf("Gas of %v between %d and %d = %v; without %v it is %v", r, from, to, after, more, before)
		}
		if before != after {
			narrower++
		}
	}
	if narrower < 200 {
		t.Errorf("only %d readings made a span narrower", narrower)
	}
}

// TestHoursTogether checks that the gas of some hours and of those after them has a span that is within both together, and is both together at a reading.
func TestHoursTogether(t *testing.T) {
	d := newDice(5)
	within := 0
	for range 3000 {
		c := anyCellar(d, 2+d.roll(20))
		r := c.round(d, 1+d.roll(9))
		from, to := c.hours(d)
		mid := from + d.roll(to-from+1)
		a, b, whole := mustGas(t, r, from, mid), mustGas(t, r, mid, to), mustGas(t, r, from, to)
		both := span(a.Lo+b.Lo, a.Hi+b.Hi)
		isRead := slices.ContainsFunc(r.Cards, func(c api.Card) bool { return c.Hour == mid })
		if !contains(both, whole) || isRead && both != whole {
			t.Errorf("Gas of %v between %d, %d and %d = %v and %v, together %v", r, from, mid, to, a, b, whole)
		}
		if both != whole {
			within++
		}
	}
	if within < 100 {
		t.Errorf("only %d spans were narrower than both together", within)
	}
}

// TestReadWhenDue checks that the gas since the last reading is known if a meter is read by the hour when it is due, and that it need not be an hour later.
func TestReadWhenDue(t *testing.T) {
	d := newDice(6)
	late := 0
	for range 2000 {
		c := anyCellar(d, 40)
		c.dial.Sticks = false
		c.dial.Rate.Hi = min(api.MaxRate, c.dial.Rate.Lo+turnOf(c.dial)/(1+d.roll(35)))
		r := api.Round{Dials: []api.Dial{c.dial}, Cards: []api.Card{card(c.first, d.roll(turnOf(c.dial)))}}
		due, e := dial.Due(r, 0)
		if e != api.OK || due < c.first {
			t.Fatalf("Due of %v = %d, error %d", r, due, e)
		}
		hours := min(due-c.first, 1+d.roll(60), api.MaxHour-c.first)
		least, most := c.dial.Rate.Lo*hours, c.dial.Rate.Hi*hours
		wantKnown(t, r, hours, least+d.roll(most-least+1))
		wantKnown(t, r, hours, least)
		wantKnown(t, r, hours, most)
		if due == api.MaxHour {
			continue
		}
		late++
		hours = due + 1 - c.first
		r.Cards = append(r.Cards, card(due+1, (r.Cards[0].Shows+c.dial.Rate.Lo*hours)%turnOf(c.dial)))
		if s := mustGas(t, r, c.first, due+1); s.Lo == s.Hi {
			t.Errorf("Gas of %v is known: it was due an hour before", r)
		}
	}
	if late < 500 {
		t.Errorf("only %d meters could be read late", late)
	}
}

// wantKnown checks that gas is known if it is read so many hours after the only reading of a meter.
func wantKnown(t *testing.T, r api.Round, hours, gas int) {
	t.Helper()
	if hours == 0 {
		return
	}
	a := r.Cards[0]
	r.Cards = append(slices.Clone(r.Cards), card(a.Hour+hours, (a.Shows+gas)%turnOf(r.Dials[0])))
	wantPairs(t, "read when it is due", r, 0, api.OK, span(gas, gas))
	wantGas(t, "read when it is due", r, 0, a.Hour, a.Hour+hours, span(gas, gas), api.OK)
}

// TestOneWrongReading checks that a reading that is wrong is a suspect, unless it fits as well.
func TestOneWrongReading(t *testing.T) {
	d := newDice(8)
	found, alone := 0, 0
	for range 2000 {
		c := anyCellar(d, 2+d.roll(20))
		r := c.round(d, 2+d.roll(6))
		l := readings(r, 0)
		i := d.roll(len(l))
		l[i].Shows = d.roll(turnOf(c.dial))
		r.Cards = shuffled(d, l)
		hours, e := dial.Suspects(r, 0)
		if e == api.ErrNone {
			continue
		}
		found++
		if !slices.Contains(hours, l[i].Hour) || len(hours) > 2 || !slices.IsSorted(hours) {
			t.Errorf("Suspects of %v = %v, error %d; that of the hour %d is wrong", r, hours, e, l[i].Hour)
		}
		if len(hours) == 1 {
			alone++
		}
	}
	if min(found, alone) < 200 {
		t.Errorf("%d wrong readings were found, %d of them for sure", found, alone)
	}
}

// A view is all that is said of a house.
type view struct {
	pairs, gas []api.Span
	suspects   []int
	due        int
	errors     [4]api.Errno
}

func viewOf(r api.Round, house, first, last int) view {
	var v view
	v.pairs, v.errors[0] = dial.Pairs(r, house)
	for from := first; from <= last; from++ {
		for to := from; to <= last; to++ {
			s, e := dial.Gas(r, house, from, to)
			v.gas, v.errors[1] = append(v.gas, s), e
		}
	}
	v.suspects, v.errors[2] = dial.Suspects(r, house)
	v.due, v.errors[3] = dial.Due(r, house)
	return v
}

// TestOrderOfCards checks that the order of the cards makes no difference, nor how often they are there.
func TestOrderOfCards(t *testing.T) {
	d := newDice(9)
	for range 500 {
		r := anyRound(d, 5, 20, 26, d.roll(2) == 0)
		if d.roll(5) == 0 {
			r.Cards = append(r.Cards, card(20+d.roll(6), d.roll(10)))
		}
		other := r
		other.Cards = shuffled(d, append(slices.Clone(r.Cards), r.Cards[:d.roll(len(r.Cards)+1)]...))
		if len(other.Cards) > api.MaxCards {
			continue
		}
		for house := range r.Dials {
			if a, b := viewOf(r, house, 19, 27), viewOf(other, house, 19, 27); !reflect.DeepEqual(a, b) {
				t.Errorf("of %v %v is said, and of %v %v", r, a, other, b)
			}
		}
	}
}

// TestOtherHouses checks that what others have, and whether it fits, makes no difference.
func TestOtherHouses(t *testing.T) {
	d := newDice(10)
	for range 500 {
		r := anyRound(d, 5, 20, 26, d.roll(2) == 0)
		house := d.roll(len(r.Dials))
		other := anyRound(d, 5, 20, 26, true)
		for len(other.Dials) <= house {
			other.Dials = append(other.Dials, anyDial(d, 5))
		}
		other.Dials[house] = r.Dials[house]
		other.Cards = slices.DeleteFunc(other.Cards, func(c api.Card) bool { return c.House == house })
		for _, c := range r.Cards {
			if c.House == house {
				other.Cards = append(other.Cards, c)
			}
		}
		if len(other.Cards) > api.MaxCards {
			continue
		}
		if a, b := viewOf(r, house, 19, 27), viewOf(other, house, 19, 27); !reflect.DeepEqual(a, b) {
			t.Errorf("of the house %d of %v %v is said, and of %v %v", house, r, a, other, b)
		}
	}
}

// TestArgumentsAreOnlyRead checks that no argument is changed, nor what lies behind its lists, and that results are new memory.
func TestArgumentsAreOnlyRead(t *testing.T) {
	d := newDice(11)
	for range 300 {
		r := anyRound(d, 5, 20, 26, d.roll(2) == 0)
		dials, cards := len(r.Dials), len(r.Cards)
		r.Dials = append(r.Dials, api.Dial{Digits: -7}, api.Dial{Digits: -8})
		r.Cards = append(r.Cards, card(-7, -7), card(-8, -8))
		was := api.Round{Dials: slices.Clone(r.Dials), Cards: slices.Clone(r.Cards)}
		short := api.Round{Dials: r.Dials[:dials], Cards: r.Cards[:cards]}
		for house := range short.Dials {
			first := viewOf(short, house, 19, 27)
			pairs, _ := dial.Pairs(short, house)
			suspects, _ := dial.Suspects(short, house)
			for i := range pairs {
				pairs[i] = span(-1, -1)
			}
			for i := range suspects {
				suspects[i] = -1
			}
			if second := viewOf(short, house, 19, 27); !reflect.DeepEqual(first, second) {
				t.Errorf("of %v first %v is said, then %v", short, first, second)
			}
		}
		if !reflect.DeepEqual(r, was) {
			t.Errorf("%v has become %v", was, r)
		}
	}
}
