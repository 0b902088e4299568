package penny_test

import (
	"slices"
	"testing"

	"gasworks/api"
	"gasworks/penny"
)

// A dice rolls the same numbers in each run of the tests.
type dice struct{ at uint64 }

func newDice(seed uint64) *dice { return &dice{at: seed} }

func (d *dice) roll(n int) int {
	d.at = d.at*6364136223846793005 + 1442695040888963407
	return int(d.at >> 33 % uint64(n))
}

// shuffled returns the elements in any order, in a list of their own.
func shuffled[T any](d *dice, l []T) []T {
	other := slices.Clone(l)
	for i := range other {
		j := d.roll(i + 1)
		other[i], other[j] = other[j], other[i]
	}
	return other
}

// feetAt returns what a penny buys in an hour.
func feetAt(s api.Slot, hour int) int {
	feet := 0
	for _, t := range s.Tariffs {
		if t.From <= hour {
			feet = t.Feet
		}
	}
	return feet
}

// A follower follows a slot meter hour by hour, and keeps all that can have been used by then.
type follower struct {
	slot   api.Slot
	bought int
	can    []bool // by what was used in all
}

// use goes on with any use of gas.
func (f *follower) use() {
	for u, can := range f.can {
		if can && u < f.slot.Start+f.bought {
			f.can[u+1] = true
		}
	}
}

// put puts in a penny: it must not be more then than the meter holds.
func (f *follower) put(feet int) {
	f.bought += feet
	for u := range f.can {
		f.can[u] = f.can[u] && f.slot.Start+f.bought-u <= f.slot.Hold
	}
}

// read keeps only what a mark says.
func (f *follower) read(used int) {
	for u := range f.can {
		f.can[u] = f.can[u] && u == used
	}
}

// end returns the error of a mark at which nothing is left that can have been used.
func (f *follower) end(used int) api.Errno {
	switch {
	case slices.Contains(f.can, true):
		return api.OK
	case used > f.slot.Start+f.bought:
		return api.ErrShort
	}
	return api.ErrFull
}

// left returns the least and the greatest credit.
func (f *follower) left() api.Span {
	most := f.slot.Start + f.bought - slices.Index(f.can, true)
	least := most
	for u, can := range f.can {
		if can {
			least = f.slot.Start + f.bought - u
		}
	}
	return span(least, most)
}

// follow follows a slot meter with pennies that are put in in these hours, as the chapter's terms say it of a course.
func follow(s api.Slot, hours []int) (bought int, left api.Span, hour int, e api.Errno) {
	f := &follower{slot: s, can: make([]bool, s.Start+1+s.Coins*s.Hold)}
	f.can[0] = true
	for hour := 0; hour <= s.Now; hour++ {
		f.use()
		for _, h := range hours {
			if h == hour {
				f.put(feetAt(s, hour))
				f.use()
			}
		}
		for _, m := range s.Marks {
			if m.Hour != hour {
				continue
			}
			f.read(m.Used)
			if e := f.end(m.Used); e != api.OK {
				return 0, api.Span{}, hour, e
			}
		}
	}
	return f.bought, f.left(), s.Now, api.OK
}

// everyHours calls a function for hours of all pennies, and so for all that there are, in one order of each.
func everyHours(s api.Slot, visit func(hours []int)) {
	hours := make([]int, s.Coins)
	var fill func(i, from int)
	fill = func(i, from int) {
		if i == len(hours) {
			visit(hours)
			return
		}
		for hour := from; hour <= s.Now; hour++ {
			hours[i] = hour
			fill(i+1, hour)
		}
	}
	fill(0, 0)
}

// A listing is what all courses of a slot meter say.
type listing struct {
	courses      int
	coins        []api.Span
	bought, left api.Span
}

// add takes in a course, or several that differ only in the gas that was used.
func (l *listing) add(coins []int, bought int, left api.Span) {
	l.courses++
	if l.courses == 1 {
		l.bought, l.left = span(bought, bought), left
		for _, n := range coins {
			l.coins = append(l.coins, span(n, n))
		}
		return
	}
	l.bought = span(min(l.bought.Lo, bought), max(l.bought.Hi, bought))
	l.left = span(min(l.left.Lo, left.Lo), max(l.left.Hi, left.Hi))
	for i, n := range coins {
		l.coins[i] = span(min(l.coins[i].Lo, n), max(l.coins[i].Hi, n))
	}
}

// want checks that a slot meter has just these courses.
func (l *listing) want(t *testing.T, name string, s api.Slot) {
	t.Helper()
	if l.courses == 0 {
		wantNone(t, name, s, api.ErrState)
		return
	}
	wantSpans(t, name, s, l.bought, l.left, l.coins...)
}

// tariffOf returns the tariff that is in force in an hour.
func tariffOf(s api.Slot, hour int) int {
	i := len(s.Tariffs) - 1
	for s.Tariffs[i].From > hour {
		i--
	}
	return i
}

// countsOf returns how many pennies are put in at each tariff.
func countsOf(s api.Slot, hours []int) []int {
	n := make([]int, len(s.Tariffs))
	for _, hour := range hours {
		n[tariffOf(s, hour)]++
	}
	return n
}

// anySlot returns a slot meter of a few hours without marks.
func anySlot(d *dice) api.Slot {
	hold := 1 + d.roll(8)
	s := api.Slot{Hold: hold, Start: d.roll(hold + 1), Coins: d.roll(5), Now: d.roll(6)}
	for hour := 0; hour <= s.Now && len(s.Tariffs) < 3; hour += 1 + d.roll(3) {
		s.Tariffs = append(s.Tariffs, api.Tariff{From: hour, Feet: 1 + d.roll(hold)})
	}
	return s
}

// anyMarks returns some marks that fit one another, whatever pennies there were.
func anyMarks(d *dice, s api.Slot) []api.Mark {
	var l []api.Mark
	used := 0
	for hour := 0; hour <= s.Now; hour++ {
		used += d.roll(2) * d.roll(s.Hold+3)
		if d.roll(3) == 0 {
			l = append(l, mark(hour, used))
		}
	}
	return shuffled(d, l)
}

// TestAllCourses holds all functions against a listing of all courses.
func TestAllCourses(t *testing.T) {
	d := newDice(1)
	seen, right, wrong := map[api.Errno]int{}, 0, 0
	for range 2000 {
		s := anySlot(d)
		if d.roll(3) == 0 {
			s.Marks = anyMarks(d, s)
		} else {
			_, s.Marks = anyTruth(d, &s).some(d, d.roll(5))
		}
		all := &listing{}
		everyHours(s, func(hours []int) {
			hours = shuffled(d, hours)
			bought, left, hour, e := follow(s, hours)
			seen[e]++
			if e != api.OK {
				wantEnd(t, "all courses", s, hours, hour, e)
				return
			}
			wantPlay(t, "all courses", s, hours, bought, left)
			all.add(countsOf(s, hours), bought, left)
		})
		all.want(t, "all courses", s)
		if all.courses > 0 {
			right++
		} else {
			wrong++
		}
	}
	if min(seen[api.OK], seen[api.ErrShort], seen[api.ErrFull]) < 5000 || min(right, wrong) < 100 {
		t.Errorf("the hours had the errors %v; %d slot meters were right, %d wrong", seen, right, wrong)
	}
}

// sections returns the hours before which something changes: the tariff, or what is known.
func sections(s api.Slot) []int {
	hours := []int{s.Now + 1}
	for _, t := range s.Tariffs {
		hours = append(hours, t.From)
	}
	for _, m := range s.Marks {
		hours = append(hours, m.Hour+1)
	}
	slices.Sort(hours)
	return slices.Compact(hours)
}

// A pile is how many pennies were put in at each tariff, and in all, and what they bought.
type pile struct {
	coins         [api.MaxTariffs]int
	total, bought int
}

// grow adds all piles that come of others by further pennies at a tariff.
func grow(s api.Slot, piles map[pile]bool, tariff int) {
	var rest []pile
	for p := range piles {
		rest = append(rest, p)
	}
	for len(rest) > 0 {
		p := rest[len(rest)-1]
		rest = rest[:len(rest)-1]
		p.coins[tariff]++
		p.total++
		p.bought += s.Tariffs[tariff].Feet
		if p.total <= s.Coins && !piles[p] {
			piles[p] = true
			rest = append(rest, p)
		}
	}
}

// listPiles lists the courses of slot meters of any size, section by section.
func listPiles(s api.Slot) *listing {
	piles := map[pile]bool{{}: true}
	hours := sections(s)
	for i := range len(hours) - 1 {
		grow(s, piles, tariffOf(s, hours[i]))
		for _, m := range s.Marks {
			for p := range piles {
				credit := s.Start + p.bought - m.Used
				if m.Hour+1 == hours[i+1] && (credit < 0 || credit > s.Hold) {
					delete(piles, p)
				}
			}
		}
	}
	all := &listing{}
	for p := range piles {
		if p.total == s.Coins {
			all.add(p.coins[:len(s.Tariffs)], p.bought, creditOf(s, p.bought))
		}
	}
	return all
}

// creditOf returns what credit there can be at last, when so much was bought.
func creditOf(s api.Slot, bought int) api.Span {
	hour, used := -1, 0
	for _, m := range s.Marks {
		hour, used = max(hour, m.Hour), max(used, m.Used)
	}
	most := s.Start + bought - used
	if hour == s.Now {
		return span(most, most)
	}
	return span(0, min(s.Hold, most))
}

// TestAllPiles holds the spans of slot meters of any size against a listing of all divisions of the pennies.
func TestAllPiles(t *testing.T) {
	d := newDice(2)
	narrow := 0
	for range 400 {
		s := bigSlot(d, 12)
		_, s.Marks = anyTruth(d, &s).some(d, d.roll(api.MaxMarks+1))
		if n := len(s.Marks); n > 0 && d.roll(4) == 0 {
			s.Marks[d.roll(n)].Used += d.roll(s.Hold)
		}
		if _, e := penny.Bought(s); e == api.ErrTwice || e == api.ErrOrder {
			continue
		}
		all := listPiles(s)
		all.want(t, "all piles", s)
		for _, c := range all.coins {
			if c.Lo > 0 && c.Lo < c.Hi {
				narrow++
				break
			}
		}
	}
	if narrow < 50 {
		t.Errorf("only %d slot meters had a tariff of which something is known", narrow)
	}
}

// TestAsMuchAsThereCanBe checks a slot meter of which all lists are as long as they can be.
func TestAsMuchAsThereCanBe(t *testing.T) {
	d := newDice(3)
	for range 3 {
		s := bigSlot(d, api.MaxCoins)
		s.Coins, s.Hold = api.MaxCoins, api.MaxHold
		for len(s.Tariffs) < api.MaxTariffs {
			last := s.Tariffs[len(s.Tariffs)-1]
			s.Tariffs = append(s.Tariffs, api.Tariff{From: last.From + 3, Feet: 1 + d.roll(api.MaxHold)})
		}
		s.Now = min(api.MaxHour, s.Now+50)
		_, marks := anyTruth(d, &s).some(d, api.MaxMarks)
		for _, n := range []int{0, 1, api.MaxMarks} {
			s.Marks = marks[:min(n, len(marks))]
			listPiles(s).want(t, "as much as there can be", s)
		}
	}
}
