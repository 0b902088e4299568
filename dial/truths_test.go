package dial_test

import (
	"cmp"
	"slices"
	"testing"

	"gasworks/api"
)

// A dice rolls the same numbers in each run of the tests.
type dice struct{ at uint64 }

func newDice(seed uint64) *dice { return &dice{at: seed} }

func (d *dice) roll(n int) int {
	d.at = d.at*6364136223846793005 + 1442695040888963407
	return int(d.at >> 33 % uint64(n))
}

// shuffled returns cards in any order, in a list of their own.
func shuffled(d *dice, l []api.Card) []api.Card {
	other := slices.Clone(l)
	for i := range other {
		j := d.roll(i + 1)
		other[i], other[j] = other[j], other[i]
	}
	return other
}

func turnOf(d api.Dial) int {
	turn := 1
	for range d.Digits {
		turn *= 10
	}
	return turn
}

// anyDial returns a dial with a Rate of up to so many numbers, with which it turns over every few hours.
func anyDial(d *dice, rates int) api.Dial {
	lo := d.roll(12)
	return api.Dial{Digits: 1, Rate: span(lo, lo+d.roll(rates)), Sticks: d.roll(3) == 0}
}

// anyCards returns readings of a house in some of the hours from first to last. What they show comes from a truth: but some are wrong, if they may be.
func anyCards(d *dice, house int, in api.Dial, first, last int, wrong bool) []api.Card {
	var l []api.Card
	shows := d.roll(turnOf(in))
	for hour := first; hour <= last; hour++ {
		c := api.Card{House: house, Hour: hour, Shows: shows}
		if wrong && d.roll(5) == 0 {
			c.Shows = d.roll(turnOf(in))
		}
		if d.roll(2) == 0 {
			l = append(l, c)
		}
		counted := in.Rate.Lo + d.roll(in.Rate.Hi-in.Rate.Lo+1)
		if in.Sticks {
			counted = d.roll(counted + 1)
		}
		shows = (shows + counted) % turnOf(in)
	}
	return l
}

// anyRound returns a round of some houses, all read between two hours. Some cards are there twice.
func anyRound(d *dice, rates, first, last int, wrong bool) api.Round {
	var r api.Round
	for house := range 1 + d.roll(3) {
		in := anyDial(d, rates)
		r.Dials = append(r.Dials, in)
		r.Cards = append(r.Cards, anyCards(d, house, in, first, last, wrong)...)
	}
	for range d.roll(3) {
		if n := len(r.Cards); n > 0 {
			r.Cards = append(r.Cards, r.Cards[d.roll(n)])
		}
	}
	r.Cards = shuffled(d, r.Cards)
	return r
}

// readings returns the readings of a house by their hours, each of them once.
func readings(r api.Round, house int) []api.Card {
	var l []api.Card
	for _, c := range r.Cards {
		if c.House == house {
			l = append(l, c)
		}
	}
	slices.SortFunc(l, func(a, b api.Card) int { return cmp.Or(a.Hour-b.Hour, a.Shows-b.Shows) })
	return slices.Compact(l)
}

// fit tells whether gas between two readings fits them: it goes through the numbers that the dial can have counted, turn by turn.
func fit(in api.Dial, a, b api.Card, gas int) bool {
	counted := b.Shows - a.Shows
	if counted < 0 {
		counted += turnOf(in)
	}
	for counted < gas && !in.Sticks {
		counted += turnOf(in)
	}
	return counted == gas || in.Sticks && counted < gas
}

// truths calls a function for the gas of each hour from first to before last, and so in all truths.
func truths(in api.Dial, first, last int, visit func(gas []int)) {
	gas := make([]int, last-first)
	var fill func(i int)
	fill = func(i int) {
		if i == len(gas) {
			visit(gas)
			return
		}
		for gas[i] = in.Rate.Lo; gas[i] <= in.Rate.Hi; gas[i]++ {
			fill(i + 1)
		}
	}
	fill(0)
}

// between returns how much gas goes between two hours in a truth that begins with the hour first.
func between(gas []int, first, from, to int) int {
	n := 0
	for _, g := range gas[from-first : to-first] {
		n += g
	}
	return n
}

func fitsAll(in api.Dial, l []api.Card, gas []int, first int) bool {
	for i := 1; i < len(l); i++ {
		if !fit(in, l[i-1], l[i], between(gas, first, l[i-1].Hour, l[i].Hour)) {
			return false
		}
	}
	return true
}

// A listing is what all truths that fit some readings say: how many there are, and the least and the greatest gas between each two hours.
type listing struct {
	truths int
	spans  map[[2]int]api.Span
}

func list(in api.Dial, l []api.Card, first, last int) listing {
	all := listing{spans: map[[2]int]api.Span{}}
	truths(in, first, last, func(gas []int) {
		if !fitsAll(in, l, gas, first) {
			return
		}
		all.truths++
		for from := first; from <= last; from++ {
			for to := from; to <= last; to++ {
				n := between(gas, first, from, to)
				s, is := all.spans[[2]int{from, to}]
				if !is {
					s = span(n, n)
				}
				all.spans[[2]int{from, to}] = span(min(s.Lo, n), max(s.Hi, n))
			}
		}
	})
	return all
}

// TestAllTruths holds Pairs, Gas and Suspects against a listing of all truths.
func TestAllTruths(t *testing.T) {
	d := newDice(1)
	fits, fails, known, suspect := 0, 0, 0, map[int]int{}
	for range 4000 {
		first, last := 0, 4
		if d.roll(2) == 0 {
			first, last = api.MaxHour-4, api.MaxHour
		}
		r := anyRound(d, 5, first, last, d.roll(2) == 0)
		for house, in := range r.Dials {
			l := readings(r, house)
			all := list(in, l, first, last)
			if all.truths == 0 {
				fails++
				wantNone(t, r, house, first, last)
				suspect[wantListed(t, r, house, l, first, last)]++
				continue
			}
			fits++
			wantSuspects(t, "all truths", r, house, api.ErrNone)
			var pairs []api.Span
			for i := 1; i < len(l); i++ {
				s := all.spans[[2]int{l[i-1].Hour, l[i].Hour}]
				pairs = append(pairs, s)
				if s.Lo == s.Hi && in.Rate.Lo < in.Rate.Hi {
					known++
				}
			}
			wantPairs(t, "all truths", r, house, api.OK, pairs...)
			for hours, s := range all.spans {
				wantGas(t, "all truths", r, house, hours[0], hours[1], s, api.OK)
			}
		}
	}
	if min(fits, fails, known, suspect[0], suspect[1], suspect[2]) < 20 {
		t.Errorf("%d houses had readings that fit, %d others; %d pairs are known; the numbers of suspects are %v", fits, fails, known, suspect)
	}
}

// wantNone checks that no truth fits the readings of a house.
func wantNone(t *testing.T, r api.Round, house, first, last int) {
	t.Helper()
	wantPairs(t, "no truth", r, house, api.ErrState)
	for from := first; from <= last; from++ {
		for to := from; to <= last; to++ {
			wantGas(t, "no truth", r, house, from, to, api.Span{}, api.ErrState)
		}
	}
}

// wantListed checks that Suspects returns the readings without which a truth fits the others, and returns how many there are.
func wantListed(t *testing.T, r api.Round, house int, l []api.Card, first, last int) int {
	t.Helper()
	var want []int
	for i, c := range l {
		if list(r.Dials[house], slices.Delete(slices.Clone(l), i, i+1), first, last).truths > 0 {
			want = append(want, c.Hour)
		}
	}
	wantSuspects(t, "all truths", r, house, api.OK, want...)
	return len(want)
}

// isDoubtful tells whether some two sums of so many hours are the same modulo the turn, but not the same.
func isDoubtful(in api.Dial, hours int) bool {
	seen := map[int]bool{}
	for sum := in.Rate.Lo * hours; sum <= in.Rate.Hi*hours; sum++ {
		if seen[sum%turnOf(in)] {
			return true
		}
		seen[sum%turnOf(in)] = true
	}
	return false
}

// TestAllSums holds Due against a listing of all sums.
func TestAllSums(t *testing.T) {
	d := newDice(2)
	beyond, doubtful := 0, 0
	for range 2000 {
		lo := d.roll(300)
		in := api.Dial{Digits: 1 + d.roll(3), Rate: span(lo, lo+1+d.roll(200))}
		first := d.roll(1000)
		if d.roll(2) == 0 {
			first = api.MaxHour - 100 + d.roll(101)
		}
		r := api.Round{Dials: []api.Dial{in}, Cards: anyCards(d, 0, in, first, min(api.MaxHour, first+9), d.roll(2) == 0)}
		l := readings(r, 0)
		if len(l) == 0 {
			wantDue(t, "no readings", r, 0, 0, api.ErrNone)
			continue
		}
		last := l[len(l)-1].Hour
		hour := last
		for hour < api.MaxHour && !isDoubtful(in, hour+1-last) {
			hour++
		}
		if hour == api.MaxHour {
			beyond++
		} else {
			doubtful++
		}
		r.Cards = shuffled(d, r.Cards)
		wantDue(t, "all sums", r, 0, hour, api.OK)
		r.Dials[0].Sticks = true
		wantDue(t, "all sums", r, 0, 0, api.ErrState)
	}
	if min(beyond, doubtful) < 50 {
		t.Errorf("%d meters were due in the last hour, %d earlier", beyond, doubtful)
	}
}

// TestTurnsOfAllDigits checks dials of all digits, with known gas, and with any.
func TestTurnsOfAllDigits(t *testing.T) {
	turn := 1
	for digits := 1; digits <= api.MaxDigits; digits++ {
		turn *= 10
		for _, rate := range []int{1, 7, 3333, 9999, 10000} {
			gas := 300 * rate
			r := one(digits, span(rate, rate), card(5, turn-1), card(305, (turn-1+gas)%turn))
			wantPairs(t, "known gas", r, 0, api.OK, span(gas, gas))
			r.Dials[0].Rate = span(0, 10000)
			wantPairs(t, "any gas", r, 0, api.OK, span(gas%turn, 3_000_000-(3_000_000-gas)%turn))
			for _, more := range []int{1, turn - 1} {
				r = one(digits, span(rate, rate), card(5, turn-1), card(305, (turn-1+gas+more)%turn))
				wantPairs(t, "other gas", r, 0, api.ErrState)
			}
		}
	}
}
