package pipe_test

import (
	"math"
	"slices"
	"testing"

	"gasworks/api"
	"gasworks/pipe"
)

func wantFedError(t *testing.T, name string, n api.Network, number int, want api.Errno) {
	t.Helper()
	if got, e := pipe.Fed(n, number); e != want || got != 0 {
		t.Errorf("%s: Fed of %v, %d = %d, error %d; want error %d", name, n, number, got, e, want)
	}
}

// wantNotValid checks that a network is not valid, whatever else is asked of it.
func wantNotValid(t *testing.T, name string, n api.Network) {
	t.Helper()
	for _, number := range []int{math.MinInt, -1, 0, 1, 3, 4, 9, math.MaxInt} {
		wantFedError(t, name, n, number, api.ErrArg)
		wantNoPress(t, name, n, number, api.ErrArg)
	}
	wantNoFault(t, name, n, api.ErrArg)
	wantNotLaid(t, name, n, api.ErrArg)
}

// wantValid checks that no function refuses a network.
func wantValid(t *testing.T, name string, n api.Network) {
	t.Helper()
	if _, e := pipe.Fed(n, 0); e != api.OK {
		t.Errorf("%s: Fed of %v has the error %d", name, n, e)
	}
	if _, e := pipe.Press(n, 0); e != api.OK {
		t.Errorf("%s: Press of %v has the error %d", name, n, e)
	}
	if _, _, e := pipe.Fault(n); e == api.ErrArg {
		t.Errorf("%s: Fault of %v has the error %d", name, n, e)
	}
	_, _, e := pipe.Lay(n)
	_, other := pipe.Must(n)
	if e == api.ErrArg || other != e {
		t.Errorf("%s: Lay of %v has the error %d, and Must %d", name, n, e, other)
	}
}

// A field is a number of a network: where it is in the network of the examples, and the least and the greatest number that it can be there.
type field struct {
	name        string
	at          func(n *api.Network) *int
	least, most int
}

func fields() []field {
	return []field{
		{"Source.Lo", func(n *api.Network) *int { return &n.Source.Lo }, 0, 110},
		{"Source.Hi", func(n *api.Network) *int { return &n.Source.Hi }, 100, 1 << 40},
		{"Need.Lo", func(n *api.Network) *int { return &n.Junctions[1].Need.Lo }, 0, 5},
		{"Need.Hi", func(n *api.Network) *int { return &n.Junctions[2].Need.Hi }, 1, 1000000},
		{"Need.Lo at the works", func(n *api.Network) *int { return &n.Junctions[0].Need.Lo }, 0, 0},
		{"Need.Hi of the last one", func(n *api.Network) *int { return &n.Junctions[3].Need.Hi }, 3, 1000000},
		{"Least", func(n *api.Network) *int { return &n.Junctions[2].Least }, -1 << 40, 110},
		{"Most", func(n *api.Network) *int { return &n.Junctions[1].Most }, 60, 1 << 40},
		{"Least at the works", func(n *api.Network) *int { return &n.Junctions[0].Least }, -1 << 40, 200},
		{"Most of the last one", func(n *api.Network) *int { return &n.Junctions[3].Most }, 0, 1 << 40},
		{"Governor", func(n *api.Network) *int { return &n.Junctions[3].Governor }, -1, 1 << 40},
		{"Governor at the works", func(n *api.Network) *int { return &n.Junctions[0].Governor }, -1, 1 << 40},
		{"From of the main 0", func(n *api.Network) *int { return &n.Mains[0].From }, 0, 0},
		{"From of the main 1", func(n *api.Network) *int { return &n.Mains[1].From }, 0, 1},
		{"From of the main 2", func(n *api.Network) *int { return &n.Mains[2].From }, 0, 2},
		{"Drop", func(n *api.Network) *int { return &n.Mains[0].Drop }, 0, 1000},
		{"Drop of the last one", func(n *api.Network) *int { return &n.Mains[2].Drop }, 0, 1000},
		{"Valve", func(n *api.Network) *int { return &n.Mains[1].Valve }, 0, 2},
		{"Cost", func(n *api.Network) *int { return &n.Mains[0].Cost }, 1, 1000000},
		{"Cost of the last one", func(n *api.Network) *int { return &n.Mains[2].Cost }, 1, 1000000},
	}
}

// TestFieldsBeyondTheirLimits sets each number to its limits, and beyond them.
func TestFieldsBeyondTheirLimits(t *testing.T) {
	for _, f := range fields() {
		for _, number := range []int{f.least, f.most} {
			n := example()
			*f.at(&n) = number
			wantValid(t, f.name, n)
		}
		for _, number := range []int{f.least - 1, f.most + 1, math.MinInt, math.MaxInt} {
			n := example()
			*f.at(&n) = number
			wantNotValid(t, f.name, n)
		}
	}
}

func TestNetworksThatAreNotValid(t *testing.T) {
	for name, spoil := range map[string]func(n *api.Network){
		"nothing":                func(n *api.Network) { *n = api.Network{} },
		"no junctions":           func(n *api.Network) { n.Junctions, n.Mains = nil, nil },
		"no junctions, no lists": func(n *api.Network) { n.Junctions, n.Mains = []api.Junction{}, []api.Main{} },
		"a junction too few":     func(n *api.Network) { n.Junctions = n.Junctions[:3] },
		"a junction too many":    func(n *api.Network) { n.Junctions = append(n.Junctions, n.Junctions[1]) },
		"a main too few":         func(n *api.Network) { n.Mains = n.Mains[:2] },
		"a main too many":        func(n *api.Network) { n.Mains = append(n.Mains, n.Mains[0]) },
		"no mains":               func(n *api.Network) { n.Mains = nil },
		"ten junctions": func(n *api.Network) {
			n.Junctions, n.Mains = slices.Repeat(n.Junctions[1:2], api.MaxMains+2), slices.Repeat(n.Mains[:1], api.MaxMains+1)
		},
		"very many": func(n *api.Network) {
			n.Junctions, n.Mains = slices.Repeat(n.Junctions[1:2], 1000), slices.Repeat(n.Mains[:1], 999)
		},
		"Least above Most":              func(n *api.Network) { n.Junctions[1].Least, n.Junctions[1].Most = 1, 0 },
		"all spans wrong way":           func(n *api.Network) { n.Source = span(math.MaxInt, math.MinInt) },
		"a shut main that is not valid": func(n *api.Network) { n.Mains[2] = main(0, -1, api.Shut, 1) },
		"a main of itself":              func(n *api.Network) { n.Mains[1].From = 2 },
		"mains in a round":              func(n *api.Network) { n.Mains[0].From, n.Mains[1].From = 2, 1 },
	} {
		wantNotValid(t, name, changed(spoil))
	}
}

func TestNetworksThatAreValid(t *testing.T) {
	wantValid(t, "the works alone", single(span(0, 0), api.Junction{}))
	wantValid(t, "the works alone, with an empty list", api.Network{Junctions: []api.Junction{{}}, Mains: []api.Main{}})
	wantValid(t, "nine junctions", changed(func(n *api.Network) {
		n.Junctions, n.Mains = slices.Repeat(n.Junctions[1:2], api.MaxMains+1), slices.Repeat(n.Mains[:1], api.MaxMains)
	}))
	wantValid(t, "Most below 0", changed(withLeast(1, -api.MaxPoints), withMost(1, -api.MaxPoints)))
	wantValid(t, "Least as great as can be", changed(withMost(1, api.MaxPoints), withLeast(1, api.MaxPoints)))
}

func TestJunctionsThatAreNone(t *testing.T) {
	for _, n := range []api.Network{example(), changed(withValve(0, api.Shut), withValve(2, api.Shut)), single(span(0, 0), api.Junction{})} {
		for _, number := range []int{-1, len(n.Junctions), 9, math.MinInt, math.MaxInt} {
			wantFedError(t, "no junction", n, number, api.ErrRange)
			wantNoPress(t, "no junction", n, number, api.ErrRange)
		}
	}
	wantNoPress(t, "not fed", changed(withValve(0, api.Shut)), 1, api.ErrNone)
	wantNoPress(t, "not fed", changed(withValve(0, api.Shut)), 2, api.ErrNone)
}

// TestAnyArguments calls all functions with numbers of all sizes: none of them panics or runs on, none returns a result besides an error, and all refuse the same networks.
func TestAnyArguments(t *testing.T) {
	some := []int{math.MinInt, -1 << 40, -1, 0, 1, 2, 3, 4, 9, 30, 110, 1000, 1001, 1000000, 1000001, 1 << 40, 1<<40 + 1, math.MaxInt}
	d := newDice(7)
	valid := 0
	for range 5000 {
		n := example()
		all := fields()
		for range d.roll(4) {
			*all[d.roll(len(all))].at(&n) = some[d.roll(len(some))]
		}
		if d.roll(9) == 0 {
			n.Junctions = slices.Repeat(n.Junctions[:d.roll(5)], d.roll(4))
		}
		if d.roll(9) == 0 {
			n.Mains = slices.Repeat(n.Mains[:d.roll(4)], d.roll(4))
		}
		if callAll(t, n, some[d.roll(len(some))]) {
			valid++
		}
	}
	if valid < 1000 || valid > 4000 {
		t.Errorf("%d networks were valid", valid)
	}
}

// callAll returns whether a network is valid.
func callAll(t *testing.T, n api.Network, number int) bool {
	t.Helper()
	state, e := pipe.Fed(n, number)
	s, e2 := pipe.Press(n, number)
	if state < api.Never || state > api.Always || e != api.OK && state != 0 || e2 != api.OK && s != (api.Span{}) || s.Lo > s.Hi || e != e2 && (e2 != api.ErrNone || state != api.Never) {
		t.Errorf("Fed of %v, %d = %d, error %d; Press = %v, error %d", n, number, state, e, s, e2)
	}
	at, low, e2 := pipe.Fault(n)
	if e2 != api.OK && (at != 0 || low) || at < 0 || e2 == api.OK && at >= len(n.Junctions) || (e == api.ErrArg) != (e2 == api.ErrArg) {
		t.Errorf("Fault of %v = %d, %t, error %d; Fed has the error %d", n, at, low, e2, e)
	}
	l, cost, e2 := pipe.Lay(n)
	m, e3 := pipe.Must(n)
	if e2 != e3 || e2 != api.OK && (len(l) != 0 || cost != 0 || len(m) != 0) || (e == api.ErrArg) != (e2 == api.ErrArg) {
		t.Errorf("Lay of %v = %v, %d, error %d; Must = %v, error %d; Fed has the error %d", n, l, cost, e2, m, e3, e)
	}
	return e != api.ErrArg
}
