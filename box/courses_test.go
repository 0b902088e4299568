package box_test

import (
	"math"
	"reflect"
	"slices"
	"testing"

	"gasworks/api"
	"gasworks/box"
)

// A dice rolls the same numbers in each run of the tests.
type dice struct{ at uint64 }

func newDice(seed uint64) *dice { return &dice{at: seed} }

func (d *dice) roll(n int) int {
	d.at = d.at*6364136223846793005 + 1442695040888963407
	return int(d.at >> 33 % uint64(n))
}

// smallTrain returns a train that is small enough to list all its courses.
func smallTrain(d *dice, boxes, hours int) api.Train {
	x := api.Train{Wear: d.roll(3), Revives: d.roll(3), Rest: 1 + d.roll(3), Work: d.roll(5), Tip: d.roll(9)}
	for range boxes {
		room := 5 + d.roll(8)
		x.Boxes = append(x.Boxes, api.Box{Room: room, Rate: 1 + d.roll(6), Foul: d.roll(room+1) / (1 + d.roll(3))})
	}
	for range hours {
		lo := d.roll(5)
		x.Loads = append(x.Loads, span(lo, lo+d.roll(3)))
	}
	return x
}

func anyTurns(d *dice, hours int) []bool {
	turns := make([]bool, hours)
	for hour := range turns {
		turns[hour] = d.roll(3) == 0
	}
	return turns
}

// A trial is what becomes of a train in one course: what slips through, how the boxes are after the last hour, what the turns cost, and the first one that is wrong (-1 if none is).
type trial struct {
	slips []int
	beds  []api.Bed
	cost  int
	wrong int
}

// resting counts the turns after an hour: the boxes that are still out, if all came back that were turned out by that hour.
func resting(done []int, hour int) int {
	n := 0
	for _, h := range done {
		if h > hour {
			n++
		}
	}
	return n
}

// follow tells what becomes of a train, by the turns so far: as the boxes always keep their order in the round, the turn number k is that of the box k modulo their number.
func follow(x api.Train, turns []bool, comes []int) trial {
	n, k := len(x.Boxes), trial{wrong: -1}
	foul := make([]int, n)
	for i, b := range x.Boxes {
		foul[i] = b.Foul
	}
	var done []int
	revived := func(i int) int { return (len(done) - i + n - 1) / n % (x.Revives + 1) }
	for hour, rest := range comes {
		if turns[hour] {
			if n-resting(done, hour-x.Rest) < 2 {
				return trial{wrong: hour}
			}
			i := len(done) % n
			foul[i] = 0
			done = append(done, hour)
			k.cost += []int{x.Tip, x.Work}[min(1, revived(i))]
		}
		for place := range n - resting(done, hour-x.Rest) {
			i := (len(done) + place) % n
			b := x.Boxes[i]
			takes := min(rest, b.Rate, b.Room-revived(i)*x.Wear-foul[i])
			foul[i] += takes
			rest -= takes
		}
		k.slips = append(k.slips, rest)
	}
	in := n - resting(done, len(comes)-1-x.Rest)
	for place := range n {
		i := (len(done) + place) % n
		k.beds = append(k.beds, api.Bed{Box: i, Foul: span(foul[i], foul[i]), Revived: revived(i), Out: place >= in})
	}
	return k
}

// courses calls visit with each course, until it returns false.
func courses(loads []api.Span, visit func(comes []int) bool) bool {
	comes := make([]int, len(loads))
	var next func(hour int) bool
	next = func(hour int) bool {
		if hour == len(loads) {
			return visit(comes)
		}
		for n := loads[hour].Lo; n <= loads[hour].Hi; n++ {
			comes[hour] = n
			if !next(hour + 1) {
				return false
			}
		}
		return true
	}
	return next(0)
}

// hull returns the least span of two spans and all between them.
func hull(a, b api.Span) api.Span { return span(min(a.Lo, b.Lo), max(a.Hi, b.Hi)) }

// ofAll returns what Run and Beds have to tell, by all courses.
func ofAll(x api.Train, turns []bool) (slips []api.Span, beds []api.Bed, wrong int) {
	first := true
	courses(x.Loads, func(comes []int) bool {
		k := follow(x, turns, comes)
		wrong = k.wrong
		if first {
			slips, beds, first = exactly(k.slips...), k.beds, false
		}
		for hour, n := range k.slips {
			slips[hour] = hull(slips[hour], span(n, n))
		}
		for place, b := range k.beds {
			beds[place].Foul = hull(beds[place].Foul, b.Foul)
		}
		return wrong < 0
	})
	return slips, beds, wrong
}

// clean tells whether nothing slips through in any course, and no turn is wrong.
func clean(x api.Train, turns []bool) bool {
	return courses(x.Loads, func(comes []int) bool {
		k := follow(x, turns, comes)
		return k.wrong < 0 && (len(comes) == 0 || slices.Max(k.slips) == 0)
	})
}

// TestAllCourses holds Run and Beds against all courses.
func TestAllCourses(t *testing.T) {
	d := newDice(1)
	wrong, slipped := 0, 0
	for i := range 1500 {
		x := smallTrain(d, 1+i%4, i%6)
		turns := anyTurns(d, len(x.Loads))
		slips, beds, hour := ofAll(x, turns)
		if hour >= 0 {
			wantError(t, x, turns, hour, api.ErrState)
			wrong++
			continue
		}
		wantRun(t, "all courses", x, turns, slips...)
		wantBeds(t, "all courses", x, turns, beds...)
		if !clean(x, turns) {
			wantNoMargin(t, "all courses", x, turns)
			slipped++
		}
	}
	if wrong < 100 || slipped < 100 {
		t.Errorf("only %d trains had wrong turns, and %d let something through", wrong, slipped)
	}
}

// bestOf returns the first of all turns of the least cost that keep the gas clean, and that cost.
func bestOf(x api.Train) (best []bool, cost int) {
	hours := len(x.Loads)
	greatest := make([]int, hours)
	for hour, s := range x.Loads {
		greatest[hour] = s.Hi
	}
	cost = math.MaxInt
	for number := range 1 << hours {
		turns := make([]bool, hours)
		for hour := range turns {
			turns[hour] = number>>(hours-1-hour)&1 == 1
		}
		if k := follow(x, turns, greatest); k.wrong < 0 && k.cost < cost && clean(x, turns) {
			best, cost = turns, k.cost
		}
	}
	return best, cost
}

func holdBest(t *testing.T, x api.Train) (turned bool) {
	t.Helper()
	want, cost := bestOf(x)
	if cost == math.MaxInt {
		wantFoul(t, "all turns", x)
		return false
	}
	turns, n, e := box.Best(x)
	if e != api.OK || n != cost || !slices.Equal(turns, want) {
		t.Errorf("Best of %v = %v, %d, error %d; want %v, %d", x, turns, n, e, want, cost)
	}
	return slices.Contains(want, true)
}

// TestBestOfAllTurns holds Best against all turns that there are, in all courses.
func TestBestOfAllTurns(t *testing.T) {
	d := newDice(2)
	turned := 0
	for i := range 6000 {
		if holdBest(t, smallTrain(d, 1+i%5, i%6)) {
			turned++
		}
	}
	if turned < 100 {
		t.Errorf("only %d trains needed a turn", turned)
	}
}

// TestBestOfLongTrains holds Best against all turns of many hours. What comes is known, so that there is one course.
func TestBestOfLongTrains(t *testing.T) {
	d := newDice(3)
	turned := 0
	for i := range 24 {
		x := smallTrain(d, 3+i%3, 11)
		x.Wear, x.Revives, x.Rest = 1, 1+i%2, 1+i%3
		for hour, s := range x.Loads {
			x.Loads[hour] = span(s.Hi, s.Hi)
		}
		if holdBest(t, x) {
			turned++
		}
	}
	if turned < 8 {
		t.Errorf("only %d trains needed a turn", turned)
	}
}

// TestBestOfAllHours checks that a train with as many boxes and hours as there can be takes no long time.
func TestBestOfAllHours(t *testing.T) {
	for revives := range api.MaxRevives + 1 {
		x := api.Train{Wear: 3, Revives: revives, Rest: 1 + revives%3, Work: 7, Tip: 11}
		for i := range api.MaxBoxes {
			x.Boxes = append(x.Boxes, api.Box{Room: api.MaxRoom - i, Rate: 200 + 37*i})
		}
		for hour := range api.MaxLoads {
			x.Loads = append(x.Loads, span(0, 100+hour*hour))
		}
		wantBest(t, "no turn is needed", x, 0)
		x.Loads[api.MaxLoads-1].Hi = api.MaxRoom
		wantFoul(t, "too much in the last hour", x)
	}
}

// raise returns a train with the Hi of each load k greater.
func raise(x api.Train, k int) api.Train {
	x.Loads = slices.Clone(x.Loads)
	for hour := range x.Loads {
		x.Loads[hour].Hi = min(api.MaxRoom, x.Loads[hour].Hi+k)
	}
	return x
}

// TestMarginOfAllCourses holds Margin against each number that loads can be greater.
func TestMarginOfAllCourses(t *testing.T) {
	d := newDice(4)
	some := 0
	for i := range 2000 {
		x := smallTrain(d, 1+i%5, 1+i%3)
		turns := anyTurns(d, len(x.Loads))
		if !clean(x, turns) {
			continue
		}
		k := 0
		for clean(raise(x, k+1), turns) {
			k++
		}
		wantMargin(t, "all courses", x, turns, k)
		some += min(k, 1)
	}
	if some < 100 {
		t.Errorf("only %d trains had a margin", some)
	}
}

// turnedOut returns what foulness the turns took out of the boxes, by how the first box was before each.
func turnedOut(t *testing.T, x api.Train, turns []bool) int {
	t.Helper()
	all := 0
	for hour, turn := range turns {
		until := x
		until.Loads = x.Loads[:hour]
		beds, e := box.Beds(until, turns[:hour])
		if e != api.OK {
			t.Errorf("Beds of %v with %v: error %d", until, turns[:hour], e)
		} else if turn {
			all += beds[0].Foul.Lo
		}
	}
	return all
}

// TestNothingIsLost checks that all that came in a course is what slipped through, what is in the boxes, and what was turned out.
func TestNothingIsLost(t *testing.T) {
	d := newDice(5)
	seen := 0
	for i := range 1500 {
		x := smallTrain(d, 1+i%5, 8)
		turns := anyTurns(d, len(x.Loads))
		came := 0
		for hour, s := range x.Loads {
			n := s.Lo + d.roll(s.Hi-s.Lo+1)
			x.Loads[hour] = span(n, n)
			came += n
		}
		slips, _, e := box.Run(x, turns)
		if e != api.OK {
			continue
		}
		for _, b := range x.Boxes {
			came += b.Foul
		}
		beds, _ := box.Beds(x, turns)
		rest := came - turnedOut(t, x, turns)
		for _, s := range slips {
			rest -= s.Lo
		}
		for _, b := range beds {
			rest -= b.Foul.Lo
		}
		if rest != 0 {
			t.Errorf("of %v with %v the boxes lost %d", x, turns, rest)
		}
		seen++
	}
	if seen < 200 {
		t.Errorf("only %d trains were looked at", seen)
	}
}

// cleaner returns a train to which less foulness comes, or which has more room.
func cleaner(d *dice, x api.Train) api.Train {
	x.Loads, x.Boxes = slices.Clone(x.Loads), slices.Clone(x.Boxes)
	if i := d.roll(len(x.Boxes)); d.roll(2) == 0 {
		x.Boxes[i].Room += 1 + d.roll(4)
		return x
	}
	s := &x.Loads[d.roll(len(x.Loads))]
	*s = span(d.roll(s.Lo+1), s.Lo+d.roll(s.Hi-s.Lo+1))
	return x
}

// costOf returns the cost of Best, or more than any if nothing keeps the gas clean.
func costOf(x api.Train) int {
	if _, n, e := box.Best(x); e == api.OK {
		return n
	}
	return math.MaxInt
}

// TestLessFoulness checks that less foulness or more room never lets more through, and never costs more.
func TestLessFoulness(t *testing.T) {
	d := newDice(6)
	lessened := 0
	for i := range 2000 {
		x := smallTrain(d, 1+i%5, 7)
		y, turns := cleaner(d, x), anyTurns(d, 7)
		more, _, e := box.Run(x, turns)
		less, _, other := box.Run(y, turns)
		if e != other {
			t.Fatalf("Run of %v: error %d; of %v: error %d", x, e, y, other)
		}
		for hour := range more {
			if less[hour].Lo > more[hour].Lo || less[hour].Hi > more[hour].Hi {
				t.Errorf("of %v slip %v, of %v only %v", y, less, x, more)
			}
		}
		a, b := costOf(x), costOf(y)
		if b > a {
			t.Errorf("Best of %v costs %d, of %v only %d", y, b, x, a)
		}
		if b < a {
			lessened++
		}
	}
	if lessened < 50 {
		t.Errorf("only %d trains cost less", lessened)
	}
}

// TestLaterHours checks that an hour more changes nothing before it, and that Best costs no less with it.
func TestLaterHours(t *testing.T) {
	d := newDice(8)
	for i := range 1000 {
		x := smallTrain(d, 1+i%5, 8)
		turns := anyTurns(d, 8)
		all, hour, e := box.Run(x, turns)
		for hours := range 8 {
			y := x
			y.Loads = x.Loads[:hours]
			some, until, other := box.Run(y, turns[:hours])
			if e == api.OK && !slices.Equal(some, all[:hours]) || e != api.OK && (other == api.OK) != (hours <= hour) || other != api.OK && until != hour {
				t.Errorf("Run of %v with %v = %v, %d, error %d; of %d hours %v, %d, error %d", x, turns, all, hour, e, hours, some, until, other)
			}
			if costOf(y) > costOf(x) {
				t.Errorf("Best of %v costs less than that of %d hours", x, hours)
			}
		}
	}
}

// everything returns what all functions say of a train.
func everything(x api.Train, turns []bool) []any {
	slips, hour, e := box.Run(x, turns)
	beds, _ := box.Beds(x, turns)
	best, cost, other := box.Best(x)
	margin, _ := box.Margin(x, turns)
	return []any{slices.Clone(slips), hour, e, slices.Clone(beds), slices.Clone(best), cost, other, margin}
}

// TestMemory checks that calls change no argument, keep nothing, and share nothing with what they return.
func TestMemory(t *testing.T) {
	d := newDice(9)
	for i := range 300 {
		x := smallTrain(d, 2+i%4, 6)
		x.Boxes, x.Loads = slices.Grow(x.Boxes, 5), slices.Grow(x.Loads, 5)
		turns := append(make([]bool, 0, 20), anyTurns(d, 6)...)
		boxes, loads, all := slices.Clone(x.Boxes[:cap(x.Boxes)]), slices.Clone(x.Loads[:cap(x.Loads)]), slices.Clone(turns[:20])
		first := everything(x, turns)
		slips, _, _ := box.Run(x, turns)
		clear(slips)
		beds, _ := box.Beds(x, turns)
		clear(beds)
		best, _, _ := box.Best(x)
		clear(best)
		everything(example(6), at(6, 2))
		if again := everything(x, turns); !reflect.DeepEqual(first, again) {
			t.Errorf("%v with %v comes to %v, and then to %v", x, turns, first, again)
		}
		if !slices.Equal(boxes, x.Boxes[:cap(boxes)]) || !slices.Equal(loads, x.Loads[:cap(loads)]) || !slices.Equal(all, turns[:20]) {
			t.Errorf("the arguments are %v and %v", x, turns)
		}
	}
}
