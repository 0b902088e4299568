package balance_test

import (
	"slices"
	"testing"

	"gasworks/api"
	"gasworks/balance"
)

const (
	least = false
	most  = true
)

func span(lo, hi int) api.Span { return api.Span{Lo: lo, Hi: hi} }

func spans(l ...api.Span) []api.Span { return l }

func flow(from, to, lo, hi int) api.Flow { return api.Flow{From: from, To: to, Gas: span(lo, hi)} }

func plant(places int, flows ...api.Flow) api.Plant { return api.Plant{Places: places, Flows: flows} }

// example returns the plant of the chapter's examples.
func example() api.Plant {
	return plant(4, flow(0, 1, 100, 120), flow(1, 2, 90, 130), flow(1, 0, 5, 10), flow(2, 3, 70, 100), flow(2, 0, 0, 40), flow(3, 0, 80, 95))
}

// burnt returns the plant of the examples with another Gas for its last flow.
func burnt(lo, hi int) api.Plant {
	p := example()
	p.Flows[5].Gas = span(lo, hi)
	return p
}

func wantTruth(t *testing.T, name string, p api.Plant, want ...int) {
	t.Helper()
	if l, e := balance.Truth(p); e != api.OK || !slices.Equal(l, want) {
		t.Errorf("%s: Truth of %v = %v, error %d; want %v", name, p, l, e, want)
	}
}

func wantTight(t *testing.T, name string, p api.Plant, want ...api.Span) {
	t.Helper()
	if l, e := balance.Tight(p); e != api.OK || !slices.Equal(l, want) {
		t.Errorf("%s: Tight of %v = %v, error %d; want %v", name, p, l, e, want)
	}
}

func wantWhy(t *testing.T, name string, p api.Plant, number int, end bool, want ...int) {
	t.Helper()
	if l, e := balance.Why(p, number, end); e != api.OK || !slices.Equal(l, want) {
		t.Errorf("%s: Why of %v with %d, %t = %v, error %d; want %v", name, p, number, end, l, e, want)
	}
}

func wantWhyError(t *testing.T, name string, p api.Plant, number int, end bool, want api.Errno) {
	t.Helper()
	if l, e := balance.Why(p, number, end); e != want || len(l) != 0 {
		t.Errorf("%s: Why of %v with %d, %t = %v, error %d; want error %d", name, p, number, end, l, e, want)
	}
}

// wantWrong checks where the flows of a plant speak against each other, and that the other functions find no truth.
func wantWrong(t *testing.T, name string, p api.Plant, want ...int) {
	t.Helper()
	if l, e := balance.Wrong(p); e != api.OK || !slices.Equal(l, want) {
		t.Errorf("%s: Wrong of %v = %v, error %d; want %v", name, p, l, e, want)
	}
	wantNoTruth(t, name, p)
}

func wantNoTruth(t *testing.T, name string, p api.Plant) {
	t.Helper()
	if l, e := balance.Truth(p); e != api.ErrState || len(l) != 0 {
		t.Errorf("%s: Truth of %v = %v, error %d; want ErrState", name, p, l, e)
	}
	if l, e := balance.Tight(p); e != api.ErrState || len(l) != 0 {
		t.Errorf("%s: Tight of %v = %v, error %d; want ErrState", name, p, l, e)
	}
	for number := range p.Flows {
		wantWhyError(t, name, p, number, least, api.ErrState)
		wantWhyError(t, name, p, number, most, api.ErrState)
	}
}

func wantNothingWrong(t *testing.T, name string, p api.Plant) {
	t.Helper()
	if l, e := balance.Wrong(p); e != api.ErrNone || len(l) != 0 {
		t.Errorf("%s: Wrong of %v = %v, error %d; want ErrNone", name, p, l, e)
	}
}

func TestExamples(t *testing.T) {
	p := example()
	wantTruth(t, "the example", p, 100, 90, 10, 80, 10, 80)
	wantTight(t, "the example", p, span(100, 120), span(90, 115), span(5, 10), span(80, 95), span(0, 35), span(80, 95))
	wantWhy(t, "the most that leaked", p, 4, most, 0)
	wantWhy(t, "the least of a main", p, 3, least, 3)
	wantWhyError(t, "the least of the coal", p, 0, least, api.ErrNone)
	wantNothingWrong(t, "the example", p)
	wantWrong(t, "a little too much", burnt(101, 102), 0, 1, 2)
	wantWrong(t, "far too much", burnt(125, 130), 0)
}

func TestEachEndOfTheExample(t *testing.T) {
	p := example()
	wantWhy(t, "the most of the flow 1", p, 1, most, 0, 2, 3)
	wantWhy(t, "the most of the flow 3", p, 3, most, 3)
	for _, c := range []struct {
		number int
		end    bool
	}{{0, least}, {0, most}, {1, least}, {2, least}, {2, most}, {4, least}, {5, least}, {5, most}} {
		wantWhyError(t, "the end of its Gas", p, c.number, c.end, api.ErrNone)
	}
	p = burnt(100, 130)
	wantTruth(t, "all is burnt", p, 105, 100, 5, 100, 0, 100)
	wantTight(t, "all is burnt", p, span(105, 120), span(100, 115), span(5, 10), span(100, 100), span(0, 15), span(100, 100))
	wantWhy(t, "all is burnt", p, 0, least, 1, 2, 3)
	wantWhy(t, "all is burnt", p, 4, most, 0)
	wantWhy(t, "all is burnt", p, 5, most, 0, 1, 2)
	wantWhyError(t, "all is burnt", p, 5, least, api.ErrNone)
}

// TestNoFlows checks plants without flows, with lists that are nil and that are empty.
func TestNoFlows(t *testing.T) {
	for _, p := range []api.Plant{{Places: 2}, {Places: 2, Flows: []api.Flow{}}, {Places: api.MaxPlaces}} {
		wantTruth(t, "no flows", p)
		wantTight(t, "no flows", p)
		wantNothingWrong(t, "no flows", p)
		wantWhyError(t, "no flows", p, 0, least, api.ErrRange)
	}
}

// TestDeadEnds checks flows from where nothing comes, and to where nothing goes on.
func TestDeadEnds(t *testing.T) {
	wantTruth(t, "a dead end", plant(2, flow(0, 1, 0, 9)), 0)
	wantTight(t, "a dead end", plant(2, flow(0, 1, 0, 9)), span(0, 0))
	wantWhy(t, "a dead end", plant(2, flow(0, 1, 0, 9)), 0, most, 1)
	wantWhy(t, "a dead end", plant(2, flow(1, 0, 0, 9)), 0, most, 0)
	wantWhyError(t, "a dead end", plant(2, flow(0, 1, 0, 9)), 0, least, api.ErrNone)
	wantWrong(t, "a dead end", plant(2, flow(0, 1, 1, 9)), 1)
	wantWrong(t, "a dead end", plant(2, flow(1, 0, 1, 9)), 0)
	wantWrong(t, "a dead end far from outside", plant(4, flow(0, 1, 0, 9), flow(1, 0, 0, 9), flow(3, 2, 1, 1)), 2)
	wantTruth(t, "a round far from outside", plant(4, flow(2, 3, 4, 7), flow(3, 2, 0, 5)), 4, 4)
	wantTight(t, "a round far from outside", plant(4, flow(2, 3, 4, 7), flow(3, 2, 0, 5)), span(4, 5), span(4, 5))
}

// TestRounds checks flows that all have to be the same.
func TestRounds(t *testing.T) {
	p := plant(3, flow(0, 1, 0, 9), flow(1, 2, 3, 8), flow(2, 0, 2, 7))
	wantTruth(t, "a round", p, 3, 3, 3)
	wantTight(t, "a round", p, slices.Repeat(spans(span(3, 7)), 3)...)
	wantWhy(t, "a round", p, 0, least, 1)
	wantWhy(t, "a round", p, 0, most, 1, 2)
	wantWhy(t, "a round", p, 1, most, 2)
	wantWhy(t, "a round", p, 2, least, 0, 1)
	p.Flows[0].Gas = span(8, 9)
	wantWrong(t, "a round that cannot be", p, 1, 2)
	p.Flows[1].Gas = span(3, 7)
	wantWrong(t, "a round that cannot be, also in a place", p, 1)
}

// TestSideBySide checks flows between the same places.
func TestSideBySide(t *testing.T) {
	p := plant(2, flow(0, 1, 1, 9), flow(1, 0, 4, 6), flow(1, 0, 0, 1))
	wantTruth(t, "two flows back", p, 4, 4, 0)
	wantTight(t, "two flows back", p, span(4, 7), span(4, 6), span(0, 1))
	wantWhy(t, "two flows back", p, 0, least, 1)
	wantWhy(t, "two flows back", p, 0, most, 1)
	p = plant(2, flow(0, 1, 2, 9), flow(0, 1, 3, 9), flow(1, 0, 0, 8))
	wantTruth(t, "two flows there", p, 2, 3, 5)
	wantTight(t, "two flows there", p, span(2, 5), span(3, 6), span(5, 8))
	wantWhy(t, "less the least of the other one", p, 0, most, 1)
	wantWhy(t, "the least of both", p, 2, least, 0)
	p.Flows[2].Gas = span(0, 4)
	wantWrong(t, "two flows there", p, 1)
	p = plant(2, flow(0, 1, 0, 9), flow(0, 1, 0, 4), flow(1, 0, 7, 8))
	wantTruth(t, "less the greatest of the other one", p, 3, 4, 7)
	wantWhy(t, "less the greatest of the other one", p, 0, least, 1)
	wantWhyError(t, "the other one alone is too little", p, 1, least, api.ErrNone)
}

// TestFirstTruth checks that flows are as little as they can be in their order, and not all together.
func TestFirstTruth(t *testing.T) {
	wantTruth(t, "the way round first", plant(3, flow(0, 1, 0, 5), flow(0, 2, 0, 5), flow(1, 2, 0, 5), flow(2, 0, 5, 5)), 0, 5, 0, 5)
	wantTruth(t, "the way round last", plant(3, flow(0, 2, 0, 5), flow(0, 1, 0, 5), flow(1, 2, 0, 5), flow(2, 0, 5, 5)), 0, 5, 5, 5)
	wantTruth(t, "what makes up for it comes last", plant(2, flow(0, 1, 2, 9), flow(1, 0, 0, 9), flow(1, 0, 0, 9)), 2, 0, 2)
}

// TestFirstProof checks which one of several sets is told.
func TestFirstProof(t *testing.T) {
	p := plant(4, flow(0, 3, 0, 9), flow(3, 2, 0, 4), flow(2, 1, 0, 4), flow(1, 0, 0, 4))
	wantWhy(t, "every set proves it", p, 0, most, 3)
	wantWhyError(t, "the end of its Gas", p, 1, most, api.ErrNone)
	p.Flows[1].Gas, p.Flows[2].Gas = span(0, 9), span(0, 8)
	wantWhy(t, "one set proves it", p, 0, most, 1, 2, 3)
	wantWhy(t, "one set proves it", p, 1, most, 1, 2)
	wantWhy(t, "one set proves it", p, 2, most, 1)
	two := plant(3, flow(0, 1, 3, 3), flow(1, 0, 0, 2), flow(0, 2, 3, 3), flow(2, 0, 0, 2))
	wantWrong(t, "two places are wrong", two, 1)
	two.Flows[1].Gas = span(0, 3)
	wantWrong(t, "one place is wrong", two, 2)
}

// TestGreatestPlant checks flows of the most gas, and as many places and flows as there can be.
func TestGreatestPlant(t *testing.T) {
	const all = api.MaxGas
	p := plant(2, flow(0, 1, all, all), flow(1, 0, 0, all))
	wantTruth(t, "the most gas", p, all, all)
	wantTight(t, "the most gas", p, span(all, all), span(all, all))
	wantWhy(t, "the most gas", p, 1, least, 0)
	round := plant(api.MaxPlaces)
	for i := range api.MaxFlows {
		round.Flows = append(round.Flows, flow(i%api.MaxPlaces, (i+1)%api.MaxPlaces, 0, all))
	}
	round.Flows[3].Gas.Lo, round.Flows[api.MaxPlaces+3].Gas.Lo = all, all-1
	want := slices.Repeat(spans(span(all-1, all)), api.MaxFlows)
	want[3] = span(all, all)
	wantTight(t, "twice round", round, want...)
	wantWhy(t, "twice round", round, 7, least, 0, 1, 2, 3)
	wantWhy(t, "twice round", round, 4, least, 0, 1, 2, 3, 5, 6, 7)
	sixteen := plant(2, slices.Repeat([]api.Flow{flow(0, 1, all, all), flow(1, 0, 0, all)}, api.MaxFlows/2)...)
	wantTruth(t, "all flows of the most gas", sixteen, slices.Repeat([]int{all}, api.MaxFlows)...)
	sixteen.Flows[1].Gas = span(0, all-1)
	wantWrong(t, "one too few", sixteen, 1)
}
