package box_test

import (
	"slices"
	"testing"

	"gasworks/api"
	"gasworks/box"
)

func span(lo, hi int) api.Span { return api.Span{Lo: lo, Hi: hi} }

func spans(l ...api.Span) []api.Span { return l }

// exactly returns loads that are known.
func exactly(loads ...int) []api.Span {
	var l []api.Span
	for _, n := range loads {
		l = append(l, span(n, n))
	}
	return l
}

// example returns so many hours of the train of the chapter's examples.
func example(hours int) api.Train {
	return api.Train{
		Boxes: []api.Box{{Room: 10, Rate: 6}, {Room: 12, Rate: 4, Foul: 2}, {Room: 8, Rate: 4}},
		Wear:  2, Revives: 1, Rest: 2, Work: 3, Tip: 20,
		Loads: spans(span(5, 6), span(5, 6), span(2, 3), span(4, 6), span(6, 6), span(4, 4))[:hours],
	}
}

// pair returns a train of two boxes that take 5 each and rest an hour, are worn by 2, and are revived once.
func pair(loads ...int) api.Train {
	return api.Train{
		Boxes: []api.Box{{Room: 5, Rate: 5}, {Room: 5, Rate: 5}},
		Wear:  2, Revives: 1, Rest: 1, Work: 3, Tip: 20,
		Loads: exactly(loads...),
	}
}

// at returns so many hours with turns in some of them.
func at(hours int, turns ...int) []bool {
	l := make([]bool, hours)
	for _, hour := range turns {
		l[hour] = true
	}
	return l
}

func in(number, lo, hi, revived int) api.Bed {
	return api.Bed{Box: number, Foul: span(lo, hi), Revived: revived}
}

func out(number, revived int) api.Bed {
	return api.Bed{Box: number, Revived: revived, Out: true}
}

func wantRun(t *testing.T, name string, x api.Train, turns []bool, want ...api.Span) {
	t.Helper()
	if l, hour, e := box.Run(x, turns); e != api.OK || hour != len(x.Loads) || !slices.Equal(l, want) {
		t.Errorf("%s: Run = %v, %d, error %d; want %v", name, l, hour, e, want)
	}
}

func wantBeds(t *testing.T, name string, x api.Train, turns []bool, want ...api.Bed) {
	t.Helper()
	if l, e := box.Beds(x, turns); e != api.OK || !slices.Equal(l, want) {
		t.Errorf("%s: Beds = %v, error %d; want %v", name, l, e, want)
	}
}

func wantBest(t *testing.T, name string, x api.Train, cost int, turns ...int) {
	t.Helper()
	want := at(len(x.Loads), turns...)
	if l, n, e := box.Best(x); e != api.OK || n != cost || !slices.Equal(l, want) {
		t.Errorf("%s: Best = %v, %d, error %d; want %v, %d", name, l, n, e, want, cost)
	}
}

func wantMargin(t *testing.T, name string, x api.Train, turns []bool, want int) {
	t.Helper()
	if n, e := box.Margin(x, turns); e != api.OK || n != want {
		t.Errorf("%s: Margin = %d, error %d; want %d", name, n, e, want)
	}
}

// wantFoul checks that nothing keeps the gas clean.
func wantFoul(t *testing.T, name string, x api.Train) {
	t.Helper()
	if l, n, e := box.Best(x); e != api.ErrFoul || n != 0 || len(l) != 0 {
		t.Errorf("%s: Best = %v, %d, error %d; want ErrFoul", name, l, n, e)
	}
}

func wantNoMargin(t *testing.T, name string, x api.Train, turns []bool) {
	t.Helper()
	if n, e := box.Margin(x, turns); e != api.ErrFoul || n != 0 {
		t.Errorf("%s: Margin = %d, error %d; want ErrFoul", name, n, e)
	}
}

func TestExamples(t *testing.T) {
	wantRun(t, "without a turn", example(6), at(6), span(0, 0), span(0, 0), span(0, 0), span(0, 0), span(0, 1), span(0, 2))
	wantRun(t, "with a turn", example(6), at(6, 2), make([]api.Span, 6)...)
	wantBeds(t, "with a turn", example(6), at(6, 2), in(1, 12, 12, 0), in(2, 6, 8, 0), in(0, 0, 3, 1))
	wantBest(t, "all hours", example(6), 3, 2)
	wantNoMargin(t, "without a turn", example(6), at(6))
	wantMargin(t, "with a turn", example(6), at(6, 2), 0)
	wantBest(t, "three hours", example(3), 0)
	wantMargin(t, "three hours", example(3), at(3), 3)
}

// TestNoHours checks a train of no hours, with lists that are nil and that are empty.
func TestNoHours(t *testing.T) {
	for _, loads := range [][]api.Span{nil, {}} {
		for _, turns := range [][]bool{nil, {}} {
			x := example(0)
			x.Loads = loads
			wantRun(t, "no hours", x, turns)
			wantBeds(t, "no hours", x, turns, in(0, 0, 0, 0), in(1, 2, 2, 0), in(2, 0, 0, 0))
			wantBest(t, "no hours", x, 0)
			wantMargin(t, "no hours", x, turns, api.MaxRoom)
		}
	}
}

// TestPassing checks what limits a box: its Rate, its Room, and the Foul that it has at first.
func TestPassing(t *testing.T) {
	one := func(b api.Box, loads ...api.Span) api.Train {
		return api.Train{Boxes: []api.Box{b}, Rest: 1, Loads: loads}
	}
	wantRun(t, "the Rate", one(api.Box{Room: 9, Rate: 4}, span(4, 5), span(0, 4), span(1, 9)), at(3), span(0, 1), span(0, 0), span(0, 8))
	wantRun(t, "the Room", one(api.Box{Room: 7, Rate: 9}, span(6, 7), span(1, 1)), at(2), span(0, 0), span(0, 1))
	wantRun(t, "Foul at first", one(api.Box{Room: 7, Rate: 9, Foul: 5}, span(2, 3)), at(1), span(0, 1))
	wantRun(t, "full at first", one(api.Box{Room: 7, Rate: 9, Foul: 7}, span(0, 3)), at(1), span(0, 3))
	wantBeds(t, "full at first", one(api.Box{Room: 7, Rate: 9, Foul: 7}, span(0, 3)), at(1), in(0, 7, 7, 0))
	x := example(1)
	x.Loads = exactly(11)
	wantRun(t, "all boxes", x, at(1), span(0, 0))
	wantBeds(t, "all boxes", x, at(1), in(0, 6, 6, 0), in(1, 6, 6, 0), in(2, 1, 1, 0))
	x.Loads = exactly(15)
	wantRun(t, "more than the Rates", x, at(1), span(1, 1))
	wantBeds(t, "more than the Rates", x, at(1), in(0, 6, 6, 0), in(1, 6, 6, 0), in(2, 4, 4, 0))
}

// TestTurning checks when a box comes back, in which place, and how foul.
func TestTurning(t *testing.T) {
	wantBeds(t, "turned out in the last hour", example(3), at(3, 2), in(1, 4, 7, 0), in(2, 0, 0, 0), out(0, 1))
	wantBeds(t, "out for another hour", example(4), at(4, 2), in(1, 8, 11, 0), in(2, 0, 2, 0), out(0, 1))
	wantBeds(t, "just back", example(5), at(5, 2), in(1, 12, 12, 0), in(2, 2, 6, 0), in(0, 0, 1, 1))
	wantBeds(t, "two are out", example(3), at(3, 1, 2), in(2, 3, 5, 0), out(0, 1), out(1, 1))
	x := example(6)
	x.Rest = api.MaxRest
	wantBeds(t, "out for good", x, at(6, 0), in(1, 12, 12, 0), in(2, 8, 8, 0), out(0, 1))
	x = example(3)
	x.Rest = 1
	wantBeds(t, "back before the next turn", x, at(3, 1, 2), in(2, 3, 5, 0), in(0, 0, 0, 1), out(1, 1))
	two := pair(1, 1, 1, 1)
	wantBeds(t, "of two boxes", two, at(4, 1, 2, 3), in(1, 1, 1, 1), out(0, 0))
	two.Rest = 3
	wantRun(t, "of two boxes, with a long rest", two, at(4, 0, 3), make([]api.Span, 4)...)
}

// TestRevivals checks that a box is revived and worn, and then tipped.
func TestRevivals(t *testing.T) {
	always := at(5, 1, 2, 3, 4)
	wantBeds(t, "revived", pair(1, 5), at(2, 1), in(1, 5, 5, 0), out(0, 1))
	wantBeds(t, "both revived", pair(1, 5, 3), at(3, 1, 2), in(0, 3, 3, 1), out(1, 1))
	wantBeds(t, "tipped", pair(1, 5, 3, 3), at(4, 1, 2, 3), in(1, 3, 3, 1), out(0, 0))
	wantBeds(t, "fresh again", pair(1, 5, 3, 3, 5), always, in(0, 5, 5, 0), out(1, 0))
	wantRun(t, "fresh again", pair(1, 5, 3, 3, 6), always, span(0, 0), span(0, 0), span(0, 0), span(0, 0), span(1, 1))
	wantRun(t, "worn by 2", pair(1, 5, 4), at(3, 1, 2), span(0, 0), span(0, 0), span(1, 1))
	x := pair(1, 5, 5, 5)
	x.Revives = 0
	wantBeds(t, "never revived", x, at(4, 1, 2, 3), in(1, 5, 5, 0), out(0, 0))
	x = pair(1, 5, 4, 4, 3, 3)
	x.Wear, x.Revives = 1, 2
	wantBeds(t, "revived twice", x, at(6, 1, 2, 3, 4, 5), in(1, 3, 3, 2), out(0, 0))
	wantRun(t, "revived twice", x, at(6, 1, 2, 3, 4, 5), make([]api.Span, 6)...)
}

// TestCosts checks what Best pays for revivals and for tippings.
func TestCosts(t *testing.T) {
	wantBest(t, "a revival", pair(5, 5, 3), 3, 1)
	wantBest(t, "two revivals and a tipping", pair(5, 5, 3, 3, 5), 3+3+20, 1, 2, 3)
	wantBest(t, "two revivals and two tippings", pair(5, 5, 3, 3, 5, 5, 3), 3+3+20+20+3, 1, 2, 3, 4, 5)
	x := pair(5, 5, 5)
	x.Revives = 0
	wantBest(t, "a tipping", x, 20, 1)
	x = pair(5, 5, 3, 3, 5)
	x.Work, x.Tip = api.MaxWork, api.MaxWork
	wantBest(t, "the dearest", x, 3*api.MaxWork, 1, 2, 3)
	x.Work, x.Tip = 0, 0
	wantBest(t, "for nothing", x, 0, 1, 2, 3)
}

// TestFirstTurns checks which one of several turns of the same cost is chosen: the one that waits longest.
func TestFirstTurns(t *testing.T) {
	for _, hour := range []int{1, 2} {
		wantRun(t, "a turn in either hour", example(6), at(6, hour), make([]api.Span, 6)...)
	}
	wantBest(t, "in the later one", example(6), 3, 2)
	x := example(4)
	wantBest(t, "none is needed", x, 0)
	x.Work, x.Tip = 0, 0
	wantBest(t, "none is needed, and all are for nothing", x, 0)
	x = example(6)
	x.Work, x.Tip = 0, 0
	wantBest(t, "all are for nothing", x, 0, 2)
}

// TestTurnsInTime checks turns that wait as long as they can, and no longer: in the last hour all boxes have to be back.
func TestTurnsInTime(t *testing.T) {
	x := api.Train{
		Boxes: []api.Box{{Room: 4, Rate: 4}, {Room: 4, Rate: 4}, {Room: 4, Rate: 4}},
		Wear:  3, Revives: 1, Rest: 1, Work: 1, Tip: 20,
		Loads: exactly(4, 4, 1, 1, 4),
	}
	wantBest(t, "two turns", x, 2, 2, 3)
	wantRun(t, "a turn too late", x, at(5, 2, 4), span(0, 0), span(0, 0), span(0, 0), span(0, 0), span(1, 1))
	x.Rest = 2
	wantBest(t, "a longer rest", x, 2, 1, 2)
	x.Rest = 3
	wantFoul(t, "too long a rest", x)
}

// TestNothingKeepsClean checks trains that let foul gas through whatever is turned.
func TestNothingKeepsClean(t *testing.T) {
	wantFoul(t, "more than the boxes", pair(11))
	wantBest(t, "as much as the boxes", pair(10), 0)
	wantFoul(t, "too soon", pair(5, 5, 4))
	wantFoul(t, "in the last hour", pair(5, 5, 3, 3, 6))
	one := api.Train{Boxes: []api.Box{{Room: 5, Rate: 5}}, Rest: 1, Loads: spans(span(0, 5), span(0, 1))}
	wantFoul(t, "one box", one)
	one.Loads[1] = span(0, 0)
	wantBest(t, "one box, and nothing more", one, 0)
	greatest := pair(0, 0)
	greatest.Loads[1] = span(0, 10)
	wantBest(t, "as much as could come", greatest, 0)
	greatest.Loads[1] = span(0, 11)
	wantFoul(t, "more than could come", greatest)
}

func TestMargin(t *testing.T) {
	wantMargin(t, "an hour", pair(1), at(1), 9)
	wantMargin(t, "an hour with a turn", pair(1), at(1, 0), 4)
	wantMargin(t, "just enough", pair(10), at(1), 0)
	wantNoMargin(t, "one too many", pair(11), at(1))
	wantMargin(t, "without a turn", pair(2, 2, 2), at(3), 1)
	wantMargin(t, "with an early turn", pair(2, 2, 2), at(3, 1), 2)
	wantMargin(t, "with a late turn", pair(2, 2, 2), at(3, 2), 1)
	wantNoMargin(t, "in the first hour", pair(11, 0), at(2, 1))
	spread := pair(0, 0)
	spread.Loads = spans(span(0, 2), span(1, 4))
	wantMargin(t, "of the greatest loads", spread, at(2), 2)
}

// TestMarginOfMaxRoom checks loads that cannot be greater.
func TestMarginOfMaxRoom(t *testing.T) {
	one := func(room, rate, lo, hi int) api.Train {
		return api.Train{Boxes: []api.Box{{Room: room, Rate: rate}}, Rest: 1, Loads: spans(span(lo, hi))}
	}
	const most = api.MaxRoom
	wantMargin(t, "all that can come", one(most, most, most, most), at(1), most)
	wantMargin(t, "nearly all", one(most, most, 0, most-1), at(1), most)
	wantMargin(t, "nothing", one(most, most, 0, 0), at(1), most)
	wantMargin(t, "a lesser Rate", one(most, most-1, 0, 0), at(1), most-1)
	wantMargin(t, "a lesser Room", one(most-1, most, 0, 0), at(1), most-1)
	wantMargin(t, "a lesser Room for some", one(most-1, most, 0, most-1), at(1), 0)
	wantNoMargin(t, "a lesser Room for all", one(most-1, most, 0, most), at(1))
}
