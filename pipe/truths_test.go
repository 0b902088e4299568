package pipe_test

import (
	"reflect"
	"slices"
	"testing"

	"gasworks/api"
	"gasworks/pipe"
)

// A dice rolls the same numbers in each run of the tests.
type dice struct{ at uint64 }

func newDice(seed uint64) *dice { return &dice{at: seed} }

func (d *dice) roll(n int) int {
	d.at = d.at*6364136223846793005 + 1442695040888963407
	return int(d.at >> 33 % uint64(n))
}

// anyNetwork returns a network with so many mains, and needs of up to so many numbers. Its junctions are all right.
func anyNetwork(d *dice, mains, needs int) api.Network {
	n := single(span(40, 40+d.roll(3)), api.Junction{})
	n.Junctions = nil
	for range mains + 1 {
		lo := d.roll(4)
		j := junction(span(lo, lo+d.roll(needs)), -api.MaxPoints, api.MaxPoints, none)
		if d.roll(4) == 0 {
			j.Governor = 10 + d.roll(35)
		}
		n.Junctions = append(n.Junctions, j)
	}
	for k := range mains {
		valve := api.Open
		if d.roll(2) == 0 {
			valve = d.roll(3)
		}
		n.Mains = append(n.Mains, main(max(0, k-d.roll(3)), d.roll(6), valve, 1+d.roll(4)))
	}
	return n
}

// A truth is what the works have, what is drawn, and which valves are open.
type truth struct {
	source int
	drawn  []int
	open   []bool
}

// pressed returns which junctions are fed in a truth, and the pressures at them: what flows is added up from the last main on, and what is lost is taken off from the first main on.
func pressed(n api.Network, tr truth) (fed []bool, press []int) {
	fed, press = make([]bool, len(n.Junctions)), make([]int, len(n.Junctions))
	fed[0], press[0] = true, tr.source
	for k, m := range n.Mains {
		fed[k+1] = tr.open[k] && fed[m.From]
	}
	flow := slices.Clone(tr.drawn)
	for k := len(n.Mains) - 1; k >= 0; k-- {
		if fed[k+1] {
			flow[n.Mains[k].From] += flow[k+1]
		}
	}
	for i, j := range n.Junctions {
		if i > 0 {
			press[i] = press[n.Mains[i-1].From] - n.Mains[i-1].Drop*flow[i]
		}
		if j.Governor >= 0 && press[i] > j.Governor {
			press[i] = j.Governor
		}
	}
	return fed, press
}

// truths calls a function for each truth. With ends alone, what is drawn and what the works have are the ends of their spans.
func truths(n api.Network, ends bool, visit func(tr truth)) {
	numbers := func(s api.Span) []int {
		if ends {
			return []int{s.Lo, s.Hi}
		}
		var l []int
		for i := s.Lo; i <= s.Hi; i++ {
			l = append(l, i)
		}
		return l
	}
	tr := truth{drawn: make([]int, len(n.Junctions)), open: make([]bool, len(n.Mains))}
	var draw, turn func(i int)
	draw = func(i int) {
		if i == len(n.Junctions) {
			visit(tr)
			return
		}
		for _, need := range numbers(n.Junctions[i].Need) {
			tr.drawn[i] = need
			draw(i + 1)
		}
	}
	turn = func(k int) {
		if k == len(n.Mains) {
			draw(0)
			return
		}
		for _, open := range []bool{false, true} {
			if v := n.Mains[k].Valve; v == api.Doubtful || open == (v == api.Open) {
				tr.open[k] = open
				turn(k + 1)
			}
		}
	}
	for _, source := range numbers(n.Source) {
		tr.source = source
		turn(0)
	}
}

// A view tells of a junction in how many truths it is fed and not, and its pressures.
type view struct {
	fed, not int
	press    api.Span
}

// viewed returns what there is to see at each junction, in all truths.
func viewed(n api.Network, ends bool) []view {
	views := make([]view, len(n.Junctions))
	truths(n, ends, func(tr truth) {
		fed, press := pressed(n, tr)
		for i, v := range views {
			switch {
			case !fed[i]:
				v.not++
			case v.fed == 0:
				v.fed, v.press = 1, span(press[i], press[i])
			default:
				v.fed, v.press = v.fed+1, span(min(v.press.Lo, press[i]), max(v.press.Hi, press[i]))
			}
			views[i] = v
		}
	})
	return views
}

func (v view) state() int {
	switch {
	case v.fed == 0:
		return api.Never
	case v.not == 0:
		return api.Always
	}
	return api.Maybe
}

func wantViews(t *testing.T, n api.Network, views []view) {
	t.Helper()
	for i, v := range views {
		if state, e := pipe.Fed(n, i); e != api.OK || state != v.state() {
			t.Errorf("Fed of %v, %d = %d, error %d; want %d", n, i, state, e, v.state())
		}
		if v.fed == 0 {
			wantNoPress(t, "all truths", n, i, api.ErrNone)
			continue
		}
		wantPress(t, "all truths", n, i, v.press)
	}
}

// TestAllTruths holds Fed and Press against a listing of all truths of small networks.
func TestAllTruths(t *testing.T) {
	d := newDice(1)
	states := [3]int{}
	for i := range 600 {
		n := anyNetwork(d, i%5, 3)
		views := viewed(n, false)
		wantViews(t, n, views)
		for _, v := range views {
			states[v.state()]++
		}
	}
	if min(states[api.Never], states[api.Maybe], states[api.Always]) < 100 {
		t.Errorf("junctions were fed never, maybe and always %v times", states)
	}
}

// TestTruthsOfGreatNetworks holds Fed and Press against all truths of the greatest networks in which each number is an end of its span, and checks that no other truth goes beyond.
func TestTruthsOfGreatNetworks(t *testing.T) {
	d := newDice(2)
	for range 40 {
		n := anyNetwork(d, api.MaxMains, 6)
		views := viewed(n, true)
		wantViews(t, n, views)
		for range 200 {
			tr := anyTruth(d, n)
			fed, press := pressed(n, tr)
			for i, v := range views {
				if fed[i] && (v.fed == 0 || press[i] < v.press.Lo || press[i] > v.press.Hi) {
					t.Errorf("the pressure at the junction %d of %v is %d in %v, and not within %v", i, n, press[i], tr, v.press)
				}
			}
		}
	}
}

func anyTruth(d *dice, n api.Network) truth {
	tr := truth{source: n.Source.Lo + d.roll(n.Source.Hi-n.Source.Lo+1)}
	for _, j := range n.Junctions {
		tr.drawn = append(tr.drawn, j.Need.Lo+d.roll(j.Need.Hi-j.Need.Lo+1))
	}
	for _, m := range n.Mains {
		tr.open = append(tr.open, m.Valve == api.Open || m.Valve == api.Doubtful && d.roll(2) == 0)
	}
	return tr
}

// copied returns a network with lists of its own.
func copied(n api.Network) api.Network {
	n.Junctions, n.Mains = slices.Clone(n.Junctions), slices.Clone(n.Mains)
	return n
}

// compare calls a function with the pressures at each junction that is fed in both of two networks, and returns how many differ.
func compare(n, other api.Network, visit func(i int, a, b api.Span)) int {
	differ := 0
	for i := range n.Junctions {
		a, e := pipe.Press(n, i)
		b, e2 := pipe.Press(other, i)
		if e != api.OK || e2 != api.OK {
			continue
		}
		if a != b {
			differ++
		}
		visit(i, a, b)
	}
	return differ
}

// TestMoreDrawn checks that with more drawn somewhere, or a greater Drop, no span goes higher.
func TestMoreDrawn(t *testing.T) {
	d := newDice(3)
	differ := 0
	for range 2000 {
		n := anyNetwork(d, 1+d.roll(api.MaxMains), 5)
		other := copied(n)
		if need := &other.Junctions[d.roll(len(n.Junctions))].Need; d.roll(2) == 0 {
			need.Hi += d.roll(3)
			need.Lo = min(need.Lo+d.roll(3), need.Hi)
		} else {
			other.Mains[d.roll(len(n.Mains))].Drop += d.roll(5)
		}
		differ += compare(n, other, func(i int, a, b api.Span) {
			if b.Lo > a.Lo || b.Hi > a.Hi {
				t.Errorf("the pressure at the junction %d of %v is within %v; with more drawn or lost, %v, within %v", i, n, a, other, b)
			}
		})
	}
	if differ < 500 {
		t.Errorf("only %d spans were others", differ)
	}
}

// TestMorePressure checks that with more pressure at the works no span goes lower.
func TestMorePressure(t *testing.T) {
	d := newDice(4)
	differ := 0
	for range 1000 {
		n := anyNetwork(d, d.roll(api.MaxMains+1), 5)
		other := copied(n)
		other.Source.Hi += d.roll(4)
		other.Source.Lo = min(other.Source.Lo+d.roll(4), other.Source.Hi)
		differ += compare(n, other, func(i int, a, b api.Span) {
			if b.Lo < a.Lo || b.Hi < a.Hi {
				t.Errorf("the pressure at the junction %d of %v is within %v; with more at the works, %v, within %v", i, n, a, other.Source, b)
			}
		})
	}
	if differ < 500 {
		t.Errorf("only %d spans were others", differ)
	}
}

// leads tells whether a main is on the way to a junction.
func leads(n api.Network, k, junction int) bool {
	for junction > 0 && junction != k+1 {
		junction = n.Mains[junction-1].From
	}
	return junction == k+1
}

// TestBehindShutValves checks that what lies behind a valve that is shut makes no difference to other junctions.
func TestBehindShutValves(t *testing.T) {
	d := newDice(5)
	checked := 0
	for range 1000 {
		n := anyNetwork(d, 1+d.roll(api.MaxMains), 5)
		k := d.roll(len(n.Mains))
		n.Mains[k].Valve = api.Shut
		other := copied(n)
		for i := range n.Junctions {
			if !leads(n, k, i) {
				continue
			}
			other.Junctions[i].Need = span(d.roll(5), 5+d.roll(50))
			other.Junctions[i].Governor = d.roll(50)
			other.Mains[i-1].Drop = d.roll(100)
			if i-1 != k {
				other.Mains[i-1].Valve = d.roll(3)
			}
			wantNoPress(t, "behind a shut valve", n, i, api.ErrNone)
			wantNoPress(t, "behind a shut valve", other, i, api.ErrNone)
			checked++
		}
		if differ := compare(n, other, func(int, api.Span, api.Span) {}); differ > 0 {
			t.Errorf("%d spans of %v are others behind the shut main %d of %v", differ, n, k, other)
		}
	}
	if checked < 1000 {
		t.Errorf("only %d junctions were behind a shut valve", checked)
	}
}

// TestMemory checks that arguments stay as they are, and that no call changes what another one returns.
func TestMemory(t *testing.T) {
	n := changed(withLeast(2, 80))
	n.Junctions = append(make([]api.Junction, 0, 20), n.Junctions...)
	n.Mains = append(make([]api.Main, 0, 20), n.Mains...)
	junctions, mains := slices.Clone(n.Junctions[:20]), slices.Clone(n.Mains[:20])
	for range 3 {
		wantFed(t, "memory", n, api.Always, api.Always, api.Always, api.Maybe)
		wantPress(t, "memory", n, 3, span(30, 30))
		wantFault(t, "memory", n, 2, true)
		lay, cost, _ := pipe.Lay(n)
		must, _ := pipe.Must(n)
		again, _ := pipe.Must(n)
		if !slices.Equal(n.Junctions[:20], junctions) || !slices.Equal(n.Mains[:20], mains) || !reflect.DeepEqual(n, changed(withLeast(2, 80))) {
			t.Fatalf("the network is %v", n)
		}
		clear(must[:cap(must)])
		if !slices.Equal(lay, []int{0, 1}) || cost != 17 || !slices.Equal(again, []int{0, 1}) {
			t.Fatalf("the results are %v, %d and %v", lay, cost, again)
		}
		clear(lay[:cap(lay)])
		clear(again[:cap(again)])
	}
}
