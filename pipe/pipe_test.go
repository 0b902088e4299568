package pipe_test

import (
	"slices"
	"testing"

	"gasworks/api"
	"gasworks/pipe"
)

const none = api.NoGovernor

func span(lo, hi int) api.Span { return api.Span{Lo: lo, Hi: hi} }

func junction(need api.Span, least, most, governor int) api.Junction {
	return api.Junction{Need: need, Least: least, Most: most, Governor: governor}
}

func main(from, drop, valve, cost int) api.Main {
	return api.Main{From: from, Drop: drop, Valve: valve, Cost: cost}
}

// example returns the network of the chapter's examples.
func example() api.Network {
	return api.Network{
		Source:    span(100, 110),
		Junctions: []api.Junction{junction(span(0, 0), 0, 200, none), junction(span(2, 5), 60, 110, none), junction(span(1, 4), 50, 110, none), junction(span(3, 3), 0, 40, 30)},
		Mains:     []api.Main{main(0, 2, api.Open, 10), main(1, 4, api.Open, 7), main(0, 5, api.Doubtful, 3)},
	}
}

// changed returns the network of the examples after changes.
func changed(changes ...func(n *api.Network)) api.Network {
	n := example()
	for _, change := range changes {
		change(&n)
	}
	return n
}

func withLeast(number, least int) func(n *api.Network) {
	return func(n *api.Network) { n.Junctions[number].Least = least }
}

func withMost(number, most int) func(n *api.Network) {
	return func(n *api.Network) { n.Junctions[number].Most = most }
}

func withGovernor(number, governor int) func(n *api.Network) {
	return func(n *api.Network) { n.Junctions[number].Governor = governor }
}

func withNeed(number, lo, hi int) func(n *api.Network) {
	return func(n *api.Network) { n.Junctions[number].Need = span(lo, hi) }
}

func withValve(number, valve int) func(n *api.Network) {
	return func(n *api.Network) { n.Mains[number].Valve = valve }
}

func withCost(number, cost int) func(n *api.Network) {
	return func(n *api.Network) { n.Mains[number].Cost = cost }
}

func withDrop(number, drop int) func(n *api.Network) {
	return func(n *api.Network) { n.Mains[number].Drop = drop }
}

func withFrom(number, from int) func(n *api.Network) {
	return func(n *api.Network) { n.Mains[number].From = from }
}

// single returns a works without mains.
func single(source api.Span, j api.Junction) api.Network {
	return api.Network{Source: source, Junctions: []api.Junction{j}}
}

func wantFed(t *testing.T, name string, n api.Network, want ...int) {
	t.Helper()
	for i, state := range want {
		if got, e := pipe.Fed(n, i); e != api.OK || got != state {
			t.Errorf("%s: Fed of %v, %d = %d, error %d; want %d", name, n, i, got, e, state)
		}
		if _, e := pipe.Press(n, i); (e == api.ErrNone) != (state == api.Never) {
			t.Errorf("%s: Fed of %v, %d = %d, and Press has the error %d", name, n, i, state, e)
		}
	}
}

func wantPress(t *testing.T, name string, n api.Network, number int, want api.Span) {
	t.Helper()
	if s, e := pipe.Press(n, number); e != api.OK || s != want {
		t.Errorf("%s: Press of %v, %d = %v, error %d; want %v", name, n, number, s, e, want)
	}
}

func wantNoPress(t *testing.T, name string, n api.Network, number int, want api.Errno) {
	t.Helper()
	if s, e := pipe.Press(n, number); e != want || s != (api.Span{}) {
		t.Errorf("%s: Press of %v, %d = %v, error %d; want error %d", name, n, number, s, e, want)
	}
}

func wantFault(t *testing.T, name string, n api.Network, number int, low bool) {
	t.Helper()
	if got, isLow, e := pipe.Fault(n); e != api.OK || got != number || isLow != low {
		t.Errorf("%s: Fault of %v = %d, %t, error %d; want %d, %t", name, n, got, isLow, e, number, low)
	}
}

func wantNoFault(t *testing.T, name string, n api.Network, want api.Errno) {
	t.Helper()
	if got, low, e := pipe.Fault(n); e != want || got != 0 || low {
		t.Errorf("%s: Fault of %v = %d, %t, error %d; want error %d", name, n, got, low, e, want)
	}
}

func wantLay(t *testing.T, name string, n api.Network, cost int, want ...int) {
	t.Helper()
	if l, got, e := pipe.Lay(n); e != api.OK || got != cost || !slices.Equal(l, want) {
		t.Errorf("%s: Lay of %v = %v, %d, error %d; want %v, %d", name, n, l, got, e, want, cost)
	}
}

func wantMust(t *testing.T, name string, n api.Network, want ...int) {
	t.Helper()
	if l, e := pipe.Must(n); e != api.OK || !slices.Equal(l, want) {
		t.Errorf("%s: Must of %v = %v, error %d; want %v", name, n, l, e, want)
	}
}

// wantNotLaid checks that Lay and Must both return an error.
func wantNotLaid(t *testing.T, name string, n api.Network, want api.Errno) {
	t.Helper()
	if l, cost, e := pipe.Lay(n); e != want || cost != 0 || len(l) != 0 {
		t.Errorf("%s: Lay of %v = %v, %d, error %d; want error %d", name, n, l, cost, e, want)
	}
	if l, e := pipe.Must(n); e != want || len(l) != 0 {
		t.Errorf("%s: Must of %v = %v, error %d; want error %d", name, n, l, e, want)
	}
}

func TestExamples(t *testing.T) {
	n := example()
	wantFed(t, "the example", n, api.Always, api.Always, api.Always, api.Maybe)
	wantPress(t, "the example", n, 1, span(82, 104))
	wantPress(t, "the example", n, 2, span(66, 100))
	wantPress(t, "the example", n, 3, span(30, 30))
	wantNoFault(t, "the example", n, api.ErrNone)
	n = changed(withLeast(2, 70))
	wantFault(t, "the Least 70", n, 2, true)
	wantLay(t, "the Least 70", n, 7, 1)
	wantMust(t, "the Least 70", n)
	n = changed(withLeast(2, 80))
	wantFault(t, "the Least 80", n, 2, true)
	wantLay(t, "the Least 80", n, 17, 0, 1)
	wantMust(t, "the Least 80", n, 0, 1)
}

// TestFed checks valves one after another on the way to a junction.
func TestFed(t *testing.T) {
	line := func(a, b, c int) api.Network {
		return changed(withFrom(2, 2), withValve(0, a), withValve(1, b), withValve(2, c))
	}
	wantFed(t, "all open", line(api.Open, api.Open, api.Open), api.Always, api.Always, api.Always, api.Always)
	wantFed(t, "doubtful first", line(api.Doubtful, api.Open, api.Open), api.Always, api.Maybe, api.Maybe, api.Maybe)
	wantFed(t, "doubtful last", line(api.Open, api.Open, api.Doubtful), api.Always, api.Always, api.Always, api.Maybe)
	wantFed(t, "all doubtful", line(api.Doubtful, api.Doubtful, api.Doubtful), api.Always, api.Maybe, api.Maybe, api.Maybe)
	wantFed(t, "shut first", line(api.Shut, api.Open, api.Doubtful), api.Always, api.Never, api.Never, api.Never)
	wantFed(t, "shut behind a doubtful one", line(api.Doubtful, api.Shut, api.Open), api.Always, api.Maybe, api.Never, api.Never)
	wantFed(t, "shut before a doubtful one", line(api.Open, api.Shut, api.Doubtful), api.Always, api.Always, api.Never, api.Never)
	wantFed(t, "shut beside", changed(withValve(2, api.Shut)), api.Always, api.Always, api.Always, api.Never)
	wantFed(t, "the works alone", single(span(5, 6), junction(span(0, 9), 0, 9, none)), api.Always)
}

// TestPressAtWorks checks that nothing is lost at the works, whatever is drawn there.
func TestPressAtWorks(t *testing.T) {
	wantPress(t, "the works alone", single(span(5, 6), junction(span(0, 9), 0, 9, none)), 0, span(5, 6))
	wantPress(t, "the works alone, governed", single(span(5, 8), junction(span(0, 9), 0, 9, 7)), 0, span(5, 7))
	wantPress(t, "the works alone, governed at 0", single(span(5, 8), junction(span(0, 9), 0, 9, 0)), 0, span(0, 0))
	for _, n := range []api.Network{example(), changed(withNeed(0, 0, api.MaxNeed)), changed(withNeed(0, 7, 7))} {
		wantPress(t, "drawn at the works", n, 0, span(100, 110))
		wantPress(t, "drawn at the works", n, 1, span(82, 104))
		wantPress(t, "drawn at the works", n, 2, span(66, 100))
	}
}

// TestPressBehindGovernors checks that a governor holds down what comes after it too, but not what comes before.
func TestPressBehindGovernors(t *testing.T) {
	n := changed(withGovernor(1, 90))
	wantPress(t, "governed on the way", n, 1, span(82, 90))
	wantPress(t, "governed on the way", n, 2, span(66, 86))
	n = changed(withGovernor(2, 66))
	wantPress(t, "governed at the end", n, 1, span(82, 104))
	wantPress(t, "governed at the end", n, 2, span(66, 66))
	n = changed(withGovernor(0, 105), withGovernor(2, 90))
	wantPress(t, "governed twice", n, 0, span(100, 105))
	wantPress(t, "governed twice", n, 1, span(82, 99))
	wantPress(t, "governed twice", n, 2, span(66, 90))
	n = changed(withGovernor(0, 0), withGovernor(1, 0))
	wantPress(t, "below 0", n, 1, span(-18, -6))
	wantPress(t, "below 0", n, 2, span(-34, -10))
	wantPress(t, "above all", changed(withGovernor(1, api.MaxPoints)), 1, span(82, 104))
}

// TestPressBeside checks what valves that are not on the way to a junction change for it.
func TestPressBeside(t *testing.T) {
	wantPress(t, "open beyond", changed(), 1, span(82, 104))
	wantPress(t, "shut beyond", changed(withValve(1, api.Shut)), 1, span(90, 106))
	wantPress(t, "doubtful beyond", changed(withValve(1, api.Doubtful)), 1, span(82, 106))
	wantPress(t, "doubtful on the way", changed(withValve(1, api.Doubtful)), 2, span(66, 100))
	wantPress(t, "doubtful all the way", changed(withValve(0, api.Doubtful), withValve(1, api.Doubtful)), 2, span(66, 100))
	for _, valve := range []int{api.Open, api.Shut, api.Doubtful} {
		wantPress(t, "another main of the works", changed(withValve(2, valve)), 2, span(66, 100))
	}
	fork := changed(withFrom(2, 1), withGovernor(3, none))
	wantPress(t, "a doubtful fork", fork, 1, span(76, 104))
	wantPress(t, "a doubtful fork", fork, 2, span(60, 100))
	wantPress(t, "a doubtful fork", fork, 3, span(61, 83))
	far := changed(withFrom(2, 2), withGovernor(3, none))
	wantPress(t, "doubtful far beyond", far, 1, span(76, 104))
	wantPress(t, "doubtful far beyond", far, 2, span(48, 100))
	wantPress(t, "doubtful far beyond", far, 3, span(33, 67))
	withValve(1, api.Shut)(&far)
	wantPress(t, "open behind a shut one", far, 1, span(90, 106))
	wantNoPress(t, "open behind a shut one", far, 3, api.ErrNone)
	withValve(1, api.Doubtful)(&far)
	withValve(2, api.Open)(&far)
	wantPress(t, "open behind a doubtful one", far, 1, span(76, 106))
}

// TestNoDrop checks that nothing is lost where nothing is drawn, or where a main loses nothing.
func TestNoDrop(t *testing.T) {
	wantPress(t, "the Drop 0", changed(withDrop(0, 0)), 1, span(100, 110))
	wantPress(t, "the Drop 0, then another", changed(withDrop(0, 0)), 2, span(84, 106))
	wantPress(t, "nothing is drawn", changed(withNeed(1, 0, 0), withNeed(2, 0, 0)), 2, span(100, 110))
}

// TestGreatestNetwork checks the greatest numbers, in the longest line.
func TestGreatestNetwork(t *testing.T) {
	n := single(span(0, api.MaxPoints), junction(span(api.MaxNeed, api.MaxNeed), -api.MaxPoints, api.MaxPoints, none))
	for k := range api.MaxMains {
		n.Junctions = append(n.Junctions, n.Junctions[0])
		n.Mains = append(n.Mains, main(k, api.MaxDrop, api.Doubtful, api.MaxCost))
	}
	const drop = api.MaxDrop * api.MaxNeed
	wantPress(t, "the greatest numbers", n, 8, span(-36*drop, api.MaxPoints-36*drop))
	wantPress(t, "the greatest numbers", n, 1, span(-8*drop, api.MaxPoints-drop))
	wantNoFault(t, "the greatest numbers", n, api.ErrNone)
	wantLay(t, "the greatest numbers", n, 0)
	n.Junctions[8].Least = -18 * drop
	wantFault(t, "half as much is lost", n, 8, true)
	wantLay(t, "half as much is lost", n, 8*api.MaxCost, 0, 1, 2, 3, 4, 5, 6, 7)
	wantMust(t, "half as much is lost", n, 0, 1, 2, 3, 4, 5, 6, 7)
	n.Junctions[8].Least++
	wantFault(t, "less than half as much is lost", n, 8, true)
	wantNotLaid(t, "less than half as much is lost", n, api.ErrNone)
	star := single(span(7, 9), junction(span(0, 0), 0, 9, none))
	for k := range api.MaxMains {
		star.Junctions = append(star.Junctions, junction(span(0, 1), 0, 9, none))
		star.Mains = append(star.Mains, main(0, k, api.Open, 1))
	}
	for k := range api.MaxMains {
		wantPress(t, "a star", star, k+1, span(7-k, 9))
	}
}

func TestFault(t *testing.T) {
	wantNoFault(t, "just right", changed(withLeast(2, 66), withMost(2, 100), withLeast(1, 82), withMost(1, 104)), api.ErrNone)
	wantFault(t, "too low", changed(withLeast(2, 67)), 2, true)
	wantFault(t, "too high", changed(withMost(2, 99)), 2, false)
	wantFault(t, "too low and too high", changed(withLeast(2, 67), withMost(2, 99)), 2, true)
	wantFault(t, "the first one is too high", changed(withMost(1, 103), withLeast(2, 99)), 1, false)
	wantFault(t, "the first one is too low", changed(withLeast(1, 83), withMost(2, 99)), 1, true)
	wantFault(t, "the works", changed(withLeast(0, 101), withLeast(1, 99)), 0, true)
	wantFault(t, "the works", changed(withMost(0, 109), withLeast(1, 99)), 0, false)
	wantFault(t, "one that may be fed", changed(withLeast(3, 31)), 3, true)
	wantFault(t, "one that may be fed", changed(withMost(3, 29)), 3, false)
	wantNoFault(t, "one that is not fed", changed(withLeast(3, 31), withValve(2, api.Shut)), api.ErrNone)
	wantFault(t, "one after another that is not fed", changed(withLeast(1, 110), withValve(0, api.Shut), withMost(3, 29)), 3, false)
}

func TestLay(t *testing.T) {
	wantLay(t, "all are right", example(), 0)
	wantMust(t, "all are right", example())
	wantLay(t, "no mains", single(span(5, 6), junction(span(0, 9), 5, 6, none)), 0)
	wantMust(t, "no mains", single(span(5, 6), junction(span(0, 9), 5, 6, none)))
	wantNotLaid(t, "no mains, and too low", single(span(5, 6), junction(span(0, 9), 6, 6, none)), api.ErrNone)
	wantNotLaid(t, "no mains, and too high", single(span(5, 6), junction(span(0, 9), 5, 5, none)), api.ErrNone)
	wantLay(t, "one of two", changed(withLeast(2, 74)), 7, 1)
	wantLay(t, "only one of them", changed(withLeast(2, 75)), 10, 0)
	wantMust(t, "only one of them", changed(withLeast(2, 75)), 0)
	wantLay(t, "both", changed(withLeast(2, 83)), 17, 0, 1)
	wantNotLaid(t, "both are too few", changed(withLeast(2, 84)), api.ErrNone)
	wantNotLaid(t, "too low at the works", changed(withLeast(0, 101)), api.ErrNone)
}

// TestLayAlike checks which one of several sets that cost the same is told.
func TestLayAlike(t *testing.T) {
	n := changed(withLeast(2, 70), withCost(1, 10))
	wantLay(t, "the same cost", n, 10, 0)
	wantMust(t, "the same cost", n)
	// Behind three mains in a line, the last one alone does as much as the first two.
	n = changed(withFrom(2, 2), withValve(2, api.Open), withGovernor(3, none), withMost(3, 200), withLeast(2, 0), withLeast(1, 0))
	n.Source, n.Mains = span(100, 100), []api.Main{main(0, 2, api.Open, 1), main(1, 2, api.Open, 1), main(2, 6, api.Open, 2)}
	for i := 1; i < 4; i++ {
		n.Junctions[i].Need = span(i/3*2, i/3*2)
	}
	withLeast(3, 84)(&n)
	wantLay(t, "two of 1, or one of 2", n, 2, 0, 1)
	wantMust(t, "two of 1, or one of 2", n)
	n.Mains[2].Cost = 1
	wantLay(t, "one of 1", n, 1, 2)
	n.Mains[1].Cost, n.Mains[2].Cost = 4, 5
	wantLay(t, "two for 5, or one for 5", n, 5, 0, 1)
}

// TestSecondMain checks that half of a Drop is rounded up, and that a second main can make a pressure too great.
func TestSecondMain(t *testing.T) {
	line := func(drop, least, most int) api.Network {
		return api.Network{
			Source:    span(20, 20),
			Junctions: []api.Junction{junction(span(0, 0), 0, 20, none), junction(span(1, 1), least, most, none)},
			Mains:     []api.Main{main(0, drop, api.Open, 6)},
		}
	}
	for drop, half := range []int{0, 1, 1, 2, 2, 3, 3, 4} {
		n := line(drop, 20-half, 20)
		wantNotLaid(t, "more than half", line(drop, 21-half, 21), api.ErrNone)
		if half == drop {
			wantLay(t, "the Drop stays", n, 0)
			wantMust(t, "the Drop stays", n)
			continue
		}
		wantLay(t, "half the Drop", n, 6, 0)
		wantMust(t, "half the Drop", n, 0)
		if least, most := 21-drop, 19-half; least <= most {
			wantNotLaid(t, "between both", line(drop, least, most), api.ErrNone)
		}
		wantLay(t, "too much with a second one", line(drop, 20-drop, 19-half), 0)
	}
	wantNotLaid(t, "too high", line(4, 0, 15), api.ErrNone)
	// What helps the junction 2 is too much for the junction 1.
	n := changed(withLeast(2, 70), withMost(1, 105))
	wantLay(t, "one helps, one is too much", n, 7, 1)
	wantMust(t, "one helps, one is too much", n, 1)
	wantLay(t, "nothing for one that is not fed", changed(withLeast(2, 99), withValve(1, api.Shut)), 0)
}
