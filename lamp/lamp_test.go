package lamp_test

import (
	"slices"
	"testing"

	"gasworks/api"
	"gasworks/lamp"
)

func span(lo, hi int) api.Span { return api.Span{Lo: lo, Hi: hi} }

func street(a, b, minutes int) api.Street { return api.Street{A: a, B: b, Minutes: minutes} }

func at(corner, early, late int) api.Lamp {
	return api.Lamp{Corner: corner, Early: early, Late: late}
}

// night returns a night that is dark from 1000 to 1800, and in which 60 minutes of moonlight are enough.
func night(rise, set int) api.Night {
	return api.Night{Dusk: 1000, Dawn: 1800, Rise: rise, Set: set, Least: 60}
}

// town returns that of the chapter's examples.
func town() api.Town {
	return api.Town{
		Corners: 4, Start: 5, Each: 1,
		Streets: []api.Street{street(0, 1, 5), street(1, 2, 5), street(0, 3, 8), street(2, 3, 4)},
		Lamps:   []api.Lamp{at(1, 10, 20), at(2, 10, 22), at(3, 10, 18), at(0, 0, 30)},
	}
}

// changed returns the town of the examples, changed.
func changed(f func(t *api.Town)) api.Town {
	t := town()
	f(&t)
	return t
}

func wantBurns(t *testing.T, name string, n api.Night, want ...api.Span) {
	t.Helper()
	if l, e := lamp.Burns(n); !slices.Equal(l, want) || e != api.OK {
		t.Errorf("%s: Burns of %v = %v, error %d; want %v", name, n, l, e, want)
	}
}

func wantWalk(t *testing.T, name string, w api.Town, from, to, want int, e api.Errno) {
	t.Helper()
	if n, got := lamp.Walk(w, from, to); n != want || got != e {
		t.Errorf("%s: Walk of %v, %d, %d = %d, error %d; want %d, error %d", name, w, from, to, n, got, want, e)
	}
}

func wantFollow(t *testing.T, name string, w api.Town, round []int, times ...int) {
	t.Helper()
	if l, n, e := lamp.Follow(w, round); !slices.Equal(l, times) || n != len(round) || e != api.OK {
		t.Errorf("%s: Follow of %v, %v = %v, %d, error %d; want %v", name, w, round, l, n, e, times)
	}
}

func wantNotFollowed(t *testing.T, name string, w api.Town, round []int, index int, e api.Errno) {
	t.Helper()
	if l, n, got := lamp.Follow(w, round); len(l) != 0 || n != index || got != e {
		t.Errorf("%s: Follow of %v, %v = %v, %d, error %d; want error %d at %d", name, w, round, l, n, got, e, index)
	}
}

func wantOrder(t *testing.T, name string, w api.Town, set int, want ...int) {
	t.Helper()
	if l, e := lamp.Order(w, set); !slices.Equal(l, want) || e != api.OK {
		t.Errorf("%s: Order of %v, %b = %v, error %d; want %v", name, w, set, l, e, want)
	}
}

func wantNoOrder(t *testing.T, name string, w api.Town, set int, e api.Errno) {
	t.Helper()
	if l, got := lamp.Order(w, set); len(l) != 0 || got != e {
		t.Errorf("%s: Order of %v, %b = %v, error %d; want error %d", name, w, set, l, got, e)
	}
}

func wantFewest(t *testing.T, name string, w api.Town, men int, want ...int) {
	t.Helper()
	if l, n, e := lamp.Fewest(w); !slices.Equal(l, want) || n != men || e != api.OK {
		t.Errorf("%s: Fewest of %v = %v, %d, error %d; want %v, %d", name, w, l, n, e, want, men)
	}
}

func wantNoneEnough(t *testing.T, name string, w api.Town, e api.Errno) {
	t.Helper()
	if l, n, got := lamp.Fewest(w); len(l) != 0 || n != 0 || got != e {
		t.Errorf("%s: Fewest of %v = %v, %d, error %d; want error %d", name, w, l, n, got, e)
	}
}

func TestExamples(t *testing.T) {
	wantBurns(t, "example", night(1100, 1400), span(1000, 1100), span(1400, 1800))
	wantBurns(t, "example", night(1100, 1150), span(1000, 1800))
	wantBurns(t, "example", night(900, 1100), span(1100, 1800))
	wantBurns(t, "example", night(0, 2000))
	wantWalk(t, "example", town(), 0, 2, 10, api.OK)
	wantWalk(t, "example", town(), 1, 3, 9, api.OK)
	wantFollow(t, "example", town(), []int{0, 1, 3}, 10, 16, 27)
	wantNotFollowed(t, "example", town(), []int{0, 2}, 1, api.ErrOrder)
	wantFollow(t, "example", town(), []int{3, 0, 1}, 5, 11, 17)
	wantOrder(t, "example", town(), 0b1011, 0, 1, 3)
	wantNoOrder(t, "example", town(), 0b101, api.ErrNone)
	wantFewest(t, "example", town(), 2, 0, 0, 1, 0)
}

func TestMoonlight(t *testing.T) {
	dark := span(1000, 1800)
	wantBurns(t, "a minute too short", night(1100, 1159), dark)
	wantBurns(t, "just long enough", night(1100, 1160), span(1000, 1100), span(1160, 1800))
	wantBurns(t, "up for long, but too short while it is dark", night(0, 1059), dark)
	wantBurns(t, "just long enough while it is dark", night(0, 1060), span(1060, 1800))
	wantBurns(t, "too short before it dawns", night(1741, 2880), dark)
	wantBurns(t, "just long enough before it dawns", night(1740, 2880), span(1000, 1740))
	wantBurns(t, "from dusk on", night(1000, 1300), span(1300, 1800))
	wantBurns(t, "until it dawns", night(1300, 1800), span(1000, 1300))
	wantBurns(t, "from dusk to dawn", night(1000, 1800))
	wantBurns(t, "set before dusk", night(0, 900), dark)
	wantBurns(t, "set at dusk", night(0, 1000), dark)
	wantBurns(t, "up at dawn", night(1800, 2880), dark)
	wantBurns(t, "up after dawn", night(2000, 2880), dark)
}

// TestShortMoonlight checks that moonlight of no minutes never counts, and that of one minute does where Least is so low.
func TestShortMoonlight(t *testing.T) {
	for least := range 3 {
		n := api.Night{Dusk: 10, Dawn: 20, Rise: 15, Set: 15, Least: least}
		wantBurns(t, "no minutes", n, span(10, 20))
		n.Rise, n.Set = 5, 8
		wantBurns(t, "none while it is dark", n, span(10, 20))
		n.Rise, n.Set = 15, 16
		if least < 2 {
			wantBurns(t, "a minute", n, span(10, 15), span(16, 20))
		} else {
			wantBurns(t, "a minute, and two are needed", n, span(10, 20))
		}
	}
	wantBurns(t, "never dark", api.Night{Dusk: 7, Dawn: 7, Rise: 0, Set: 20})
	wantBurns(t, "never dark, nor is the moon up", api.Night{})
	wantBurns(t, "a minute", api.Night{Dusk: 7, Dawn: 8}, span(7, 8))
	wantBurns(t, "a minute, and the moon is up", api.Night{Dusk: 7, Dawn: 8, Rise: 7, Set: 8})
	wantBurns(t, "as long as can be", api.Night{Dawn: 2880}, span(0, 2880))
	wantBurns(t, "as long as can be, and the moon is up", api.Night{Dawn: 2880, Set: 2880, Least: 2880})
	wantBurns(t, "a minute less", api.Night{Dawn: 2880, Rise: 1, Set: 2880, Least: 2880}, span(0, 2880))
}

func TestWays(t *testing.T) {
	for from, l := range [][]int{{0, 5, 10, 8}, {5, 0, 5, 9}, {10, 5, 0, 4}, {8, 9, 4, 0}} {
		for to, n := range l {
			wantWalk(t, "each way", town(), from, to, n, api.OK)
		}
	}
	wantWalk(t, "round about is shorter", changed(func(t *api.Town) { t.Streets[2].Minutes = 15 }), 0, 3, 14, api.OK)
	wantWalk(t, "as long both ways", changed(func(t *api.Town) { t.Streets[2].Minutes = 14 }), 3, 0, 14, api.OK)
	wantWalk(t, "the street is shorter", changed(func(t *api.Town) { t.Streets[2].Minutes = 13 }), 0, 3, 13, api.OK)
	for _, minutes := range []int{1, 5, 600} {
		w := api.Town{Corners: 2, Streets: []api.Street{street(1, 0, minutes), street(0, 1, 5), street(1, 0, 600)}}
		wantWalk(t, "some streets between two corners", w, 0, 1, min(5, minutes), api.OK)
	}
	alone := api.Town{Corners: 1}
	wantWalk(t, "one corner", alone, 0, 0, 0, api.OK)
	wantWalk(t, "another one", alone, 0, 1, 0, api.ErrRange)
	long := api.Town{Corners: 10}
	for i := range 9 {
		long.Streets = append(long.Streets, street(i+1, i, 600))
	}
	wantWalk(t, "the longest way", long, 0, 9, 5400, api.OK)
	wantWalk(t, "the longest way back", long, 9, 0, 5400, api.OK)
}

func TestNoWay(t *testing.T) {
	apart := changed(func(t *api.Town) {
		t.Corners = 7
		t.Streets = append(t.Streets, street(5, 6, 3))
		t.Lamps = []api.Lamp{at(1, 0, 2880), at(5, 0, 2880), at(4, 0, 2880)}
	})
	wantWalk(t, "a corner without streets", apart, 4, 4, 0, api.OK)
	wantWalk(t, "within the other part", apart, 6, 5, 3, api.OK)
	for _, way := range [][2]int{{0, 4}, {4, 0}, {1, 5}, {6, 3}, {4, 6}, {5, 4}} {
		wantWalk(t, "no way", apart, way[0], way[1], 0, api.ErrNone)
	}
	wantFollow(t, "there is a way", apart, []int{0}, 10)
	wantNotFollowed(t, "no way", apart, []int{1}, 0, api.ErrNone)
	wantNotFollowed(t, "no way", apart, []int{0, 2}, 1, api.ErrNone)
	wantOrder(t, "there is a way", apart, 0b001, 0)
	for _, set := range []int{0b010, 0b100, 0b011, 0b110, 0b111} {
		wantNoOrder(t, "no way", apart, set, api.ErrNone)
	}
	wantNoneEnough(t, "no way", apart, api.ErrNone)
	apart.Lamps = apart.Lamps[:1]
	wantFewest(t, "there is a way", apart, 1, 0)
}

// TestWaits checks that a man waits for Early, and lights each lamp in Each minutes.
func TestWaits(t *testing.T) {
	w := api.Town{Corners: 2, Start: 100, Each: 7, Streets: []api.Street{street(0, 1, 10)}, Lamps: []api.Lamp{at(1, 0, 2880), at(1, 200, 200), at(0, 0, 217), at(0, 216, 2880)}}
	wantFollow(t, "at once", w, []int{0}, 110)
	wantFollow(t, "he waits, and is back just in time", w, []int{1, 2}, 200, 217)
	wantFollow(t, "two lamps at one corner", w, []int{0, 1, 2}, 110, 200, 217)
	wantFollow(t, "he waits at the station", w, []int{2, 3, 0}, 100, 216, 233)
	wantNotFollowed(t, "a minute too late", w, []int{3, 2}, 1, api.ErrOrder)
	w.Each = 0
	wantFollow(t, "lit in no time", w, []int{0, 1, 2, 3}, 110, 200, 210, 216)
	w.Each = 60
	wantNotFollowed(t, "lit in an hour", w, []int{1, 2}, 1, api.ErrOrder)
	wantFollow(t, "lit in an hour", w, []int{2, 0, 3}, 100, 170, 240)
}

// TestJustInTime checks starts from which a man comes just in time, or too late.
func TestJustInTime(t *testing.T) {
	for start := range 40 {
		w := changed(func(t *api.Town) { t.Start = start })
		if start <= 15 {
			wantFollow(t, "in time", w, []int{0}, max(10, start+5))
			wantOrder(t, "in time", w, 0b1, 0)
		} else {
			wantNotFollowed(t, "too late", w, []int{0}, 0, api.ErrOrder)
			wantNoOrder(t, "too late", w, 0b1, api.ErrNone)
		}
	}
	w := changed(func(t *api.Town) { t.Start = 2880 })
	wantNotFollowed(t, "as late as can be", w, []int{3}, 0, api.ErrOrder)
	w.Lamps[3].Late = 2880
	wantFollow(t, "as late as can be", w, []int{3}, 2880)
	wantOrder(t, "as late as can be", w, 0b1000, 3)
	w.Start, w.Lamps[3] = 0, at(0, 0, 0)
	wantFollow(t, "as early as can be", w, []int{3}, 0)
}

func TestNoLamps(t *testing.T) {
	for _, none := range [][]api.Lamp{nil, {}} {
		for _, streets := range [][]api.Street{nil, {}} {
			w := api.Town{Corners: 1, Streets: streets, Lamps: none}
			wantFollow(t, "no lamps", w, nil)
			wantFollow(t, "no lamps", w, []int{})
			wantNotFollowed(t, "no lamps", w, []int{0}, 0, api.ErrRange)
			wantOrder(t, "no lamps", w, 0)
			wantNoOrder(t, "no lamps", w, 1, api.ErrRange)
			wantFewest(t, "no lamps", w, 0)
		}
	}
	wantFollow(t, "none of the lamps", town(), nil)
	wantOrder(t, "none of the lamps", town(), 0)
}

// TestFirstOrder checks that of the orders in time the first one is told.
func TestFirstOrder(t *testing.T) {
	w := town()
	wantOrder(t, "the order of the lamps", w, 0b11, 0, 1)
	wantOrder(t, "the only order", w, 0b110, 2, 1)
	wantOrder(t, "not the order of the lamps", w, 0b1110, 2, 1, 3)
	wantNoOrder(t, "all lamps", w, 0b1111, api.ErrNone)
	w.Lamps = slices.Repeat([]api.Lamp{at(1, 0, 2880)}, 8)
	wantOrder(t, "any order", w, 0b11111111, 0, 1, 2, 3, 4, 5, 6, 7)
	wantOrder(t, "any order of some", w, 0b10110010, 1, 4, 5, 7)
	for i := range w.Lamps {
		w.Lamps[i].Late = 10 + 7 - i
	}
	wantOrder(t, "backward", w, 0b11111111, 7, 6, 5, 4, 3, 2, 1, 0)
	w.Lamps[3].Late = 13
	wantNoOrder(t, "two at the same time", w, 0b11111111, api.ErrNone)
	wantOrder(t, "without one of them", w, 0b11110111, 7, 6, 5, 4, 0, 2, 1)
	w.Lamps[3].Late = 17
	w.Lamps[0].Late = 16
	wantOrder(t, "the first one last, or last but one", w, 0b10000001, 7, 0)
	w.Lamps[7].Late = 11
	wantOrder(t, "both first", w, 0b10000001, 0, 7)
}

func TestFewestMen(t *testing.T) {
	w := town()
	w.Lamps[2].Late = 20
	wantFewest(t, "still too late for one man", w, 2, 0, 0, 1, 0)
	w.Lamps[2].Late = 21
	wantFewest(t, "one man", w, 1, 0, 0, 0, 0)
	w.Lamps[3].Late = 29
	wantFewest(t, "the station's lamp goes to another man", w, 2, 0, 0, 0, 1)
	w = town()
	for i, late := range []int{10, 15, 13, 5} {
		w.Lamps[i].Late = late
	}
	wantFewest(t, "a man for each lamp", w, 4, 0, 1, 2, 3)
	w.Lamps = slices.Repeat([]api.Lamp{at(0, 5, 5)}, 8)
	wantFewest(t, "eight men", w, 8, 0, 1, 2, 3, 4, 5, 6, 7)
	w.Each = 0
	wantFewest(t, "lit in no time", w, 1, 0, 0, 0, 0, 0, 0, 0, 0)
	w.Each, w.Lamps[1].Late, w.Lamps[5].Late = 1, 6, 7
	wantFewest(t, "the first ones with the first man", w, 6, 0, 0, 1, 2, 3, 0, 4, 5)
}

// TestFirstAllotment checks that of the allotments with the fewest men the first one is told.
func TestFirstAllotment(t *testing.T) {
	w := api.Town{Corners: 1, Start: 0, Each: 10, Lamps: []api.Lamp{at(0, 0, 0), at(0, 0, 10), at(0, 0, 10), at(0, 0, 20)}}
	wantFewest(t, "the second one with the first", w, 2, 0, 0, 1, 0)
	w.Lamps = []api.Lamp{at(0, 0, 10), at(0, 0, 0), at(0, 0, 10), at(0, 0, 0)}
	wantFewest(t, "the first two together", w, 2, 0, 0, 1, 1)
	w.Lamps = []api.Lamp{at(0, 0, 0), at(0, 0, 0), at(0, 0, 10), at(0, 10, 10)}
	wantFewest(t, "the first one with the first of the last", w, 2, 0, 1, 0, 1)
	w.Lamps = []api.Lamp{at(0, 0, 20), at(0, 0, 20), at(0, 0, 20), at(0, 0, 20), at(0, 0, 20)}
	wantFewest(t, "as many with the first man as can be", w, 2, 0, 0, 0, 1, 1)
	w.Lamps = append(w.Lamps, at(0, 0, 0))
	wantFewest(t, "the last one needs the first place of a man", w, 2, 0, 0, 0, 1, 1, 1)
	// A man lights the first two lamps, but then the last two need two more.
	w.Lamps = []api.Lamp{at(0, 0, 10), at(0, 0, 10), at(0, 0, 0), at(0, 0, 0)}
	wantFewest(t, "not the first two together", w, 2, 0, 1, 0, 1)
}

// TestOneTooLate checks that no men are enough if some lamp alone cannot be lit, whichever it is.
func TestOneTooLate(t *testing.T) {
	for i, late := range []int{9, 14, 12, 4} {
		w := town()
		w.Lamps[i].Early, w.Lamps[i].Late = 0, late
		wantNoneEnough(t, "a minute too late", w, api.ErrNone)
		wantNoOrder(t, "a minute too late", w, 1<<i, api.ErrNone)
		w.Lamps[i].Late = late + 1
		if _, _, e := lamp.Fewest(w); e != api.OK {
			t.Errorf("Fewest of %v has the error %d", w, e)
		}
		wantOrder(t, "just in time", w, 1<<i, i)
	}
}
