package balance_test

import (
	"reflect"
	"slices"
	"testing"

	"gasworks/api"
	"gasworks/balance"
)

// A dice rolls the same numbers in each run of the tests.
type dice struct{ at uint64 }

func newDice(seed uint64) *dice { return &dice{at: seed} }

func (d *dice) roll(n int) int {
	d.at = d.at*6364136223846793005 + 1442695040888963407
	return int(d.at >> 33 % uint64(n))
}

// smallPlant returns a plant that is small enough to list all its truths.
func smallPlant(d *dice) api.Plant {
	p := plant(2 + d.roll(3))
	for range d.roll(6) {
		from := d.roll(p.Places)
		lo := d.roll(3)
		p.Flows = append(p.Flows, flow(from, (from+1+d.roll(p.Places-1))%p.Places, lo, lo+d.roll(4)))
	}
	return p
}

// greatPlant returns a plant of any size with a truth: gas goes round in it some times, by ways of any length, and each flow is measured more or less well.
func greatPlant(d *dice) (api.Plant, []int) {
	p := plant(2 + d.roll(api.MaxPlaces-1))
	var truth []int
	for tries := 0; len(p.Flows) < api.MaxFlows-2 && tries < 6; tries++ {
		way := []int{d.roll(p.Places)}
		for len(p.Flows)+len(way) < api.MaxFlows && d.roll(4) > 0 || len(way) < 2 {
			way = append(way, (way[len(way)-1]+1+d.roll(p.Places-1))%p.Places)
		}
		gas := d.roll(1000) << d.roll(20)
		for i, from := range way {
			if to := way[(i+1)%len(way)]; to != from {
				p.Flows = append(p.Flows, flow(from, to, max(0, gas-d.roll(gas/2+5)), min(api.MaxGas, gas+d.roll(gas/2+5))))
				truth = append(truth, gas)
			}
		}
	}
	return p, truth
}

// isTruth tells whether there is a number for each flow, one of its Gas, and each place gets what it gives.
func isTruth(p api.Plant, l []int) bool {
	if len(l) != len(p.Flows) {
		return false
	}
	more := make([]int, p.Places)
	for i, f := range p.Flows {
		if l[i] < f.Gas.Lo || l[i] > f.Gas.Hi {
			return false
		}
		more[f.To] += l[i]
		more[f.From] -= l[i]
	}
	return !slices.ContainsFunc(more, func(n int) bool { return n != 0 })
}

// truths lists all truths of a small plant, in lexicographic order.
func truths(p api.Plant) [][]int {
	var all [][]int
	var follow func(l []int)
	follow = func(l []int) {
		if len(l) == len(p.Flows) {
			if isTruth(p, l) {
				all = append(all, slices.Clone(l))
			}
			return
		}
		for n := p.Flows[len(l)].Gas.Lo; n <= p.Flows[len(l)].Gas.Hi; n++ {
			follow(append(l, n))
		}
	}
	follow(nil)
	return all
}

// tightest returns the span of each flow in a list of truths.
func tightest(p api.Plant, truths [][]int) []api.Span {
	var l []api.Span
	for i := range p.Flows {
		s := span(truths[0][i], truths[0][i])
		for _, truth := range truths {
			s = span(min(s.Lo, truth[i]), max(s.Hi, truth[i]))
		}
		l = append(l, s)
	}
	return l
}

// border adds up what goes into some places and out of them, but for one flow.
func border(p api.Plant, places []int, without int) (in, out api.Span) {
	for i, f := range p.Flows {
		from, to := slices.Contains(places, f.From), slices.Contains(places, f.To)
		switch {
		case i == without:
		case to && !from:
			in = span(in.Lo+f.Gas.Lo, in.Hi+f.Gas.Hi)
		case from && !to:
			out = span(out.Lo+f.Gas.Lo, out.Hi+f.Gas.Hi)
		}
	}
	return in, out
}

// firstSet returns the places of the set with the least number that is as asked.
func firstSet(p api.Plant, is func(places []int) bool) ([]int, bool) {
	for number := range 1 << p.Places {
		var places []int
		for place, rest := 0, number; rest > 0; place, rest = place+1, rest/2 {
			if rest%2 == 1 {
				places = append(places, place)
			}
		}
		if is(places) {
			return places, true
		}
	}
	return nil, false
}

// firstProof returns the places that Why has to tell for an end of a flow that is not that of its Gas.
func firstProof(p api.Plant, number int, end bool, tight api.Span) ([]int, bool) {
	f := p.Flows[number]
	return firstSet(p, func(places []int) bool {
		if !slices.Contains(places, f.To) || slices.Contains(places, f.From) {
			return false
		}
		in, out := border(p, places, number)
		if end == most {
			return out.Hi-in.Lo == tight.Hi
		}
		return out.Lo-in.Hi == tight.Lo
	})
}

// wantProofs checks Why for all ends of all flows, and returns how many of them have a proof.
func wantProofs(t *testing.T, p api.Plant, tight []api.Span) int {
	t.Helper()
	proofs := 0
	for number, f := range p.Flows {
		for _, end := range []bool{least, most} {
			if end == least && tight[number].Lo == f.Gas.Lo || end == most && tight[number].Hi == f.Gas.Hi {
				wantWhyError(t, "an end of its Gas", p, number, end, api.ErrNone)
				continue
			}
			places, is := firstProof(p, number, end, tight[number])
			if !is {
				t.Fatalf("nothing proves the end %t of the flow %d of %v: %v", end, number, p, tight[number])
			}
			wantWhy(t, "a proof", p, number, end, places...)
			proofs++
		}
	}
	return proofs
}

// TestAllTruths holds all functions against a listing of all truths of small plants.
func TestAllTruths(t *testing.T) {
	d := newDice(1)
	with, without, proofs := 0, 0, 0
	for range 4000 {
		p := smallPlant(d)
		all := truths(p)
		if len(all) == 0 {
			places, is := firstSet(p, func(places []int) bool {
				in, out := border(p, places, -1)
				return in.Lo > out.Hi
			})
			if !is {
				t.Fatalf("nothing shows that %v has no truth", p)
			}
			wantWrong(t, "no truth", p, places...)
			without++
			continue
		}
		tight := tightest(p, all)
		wantTruth(t, "all truths", p, all[0]...)
		wantTight(t, "all truths", p, tight...)
		wantNothingWrong(t, "all truths", p)
		proofs += wantProofs(t, p, tight)
		with++
	}
	if with < 500 || without < 500 || proofs < 500 {
		t.Errorf("only %d plants had a truth, with %d proofs, and %d had none", with, proofs, without)
	}
}

// TestGreatPlants checks plants of any size: the truth by which they were made is within the tight spans, there is a truth at each end of them, none beyond it, and a set of places proves that.
func TestGreatPlants(t *testing.T) {
	d := newDice(2)
	proofs := 0
	for range 150 {
		p, made := greatPlant(d)
		if !isTruth(p, made) {
			t.Fatalf("%v has the wrong truth %v", p, made)
		}
		tight, e := balance.Tight(p)
		if e != api.OK || len(tight) != len(made) {
			t.Fatalf("Tight of %v = %v, error %d", p, tight, e)
		}
		for i, n := range made {
			if n < tight[i].Lo || n > tight[i].Hi {
				t.Errorf("the flow %d of %v was %d, and not within %v", i, p, n, tight[i])
			}
		}
		first, e := balance.Truth(p)
		if e != api.OK || !isTruth(p, first) || slices.Compare(first, made) > 0 {
			t.Errorf("Truth of %v = %v, error %d; another one is %v", p, first, e, made)
		}
		wantNothingWrong(t, "a great plant", p)
		proofs += wantProofs(t, p, tight)
		for i := range p.Flows {
			wantTruthAtEnds(t, p, i, tight[i])
		}
	}
	if proofs < 500 {
		t.Errorf("only %d ends had a proof", proofs)
	}
}

// wantTruthAtEnds checks that there is a truth at both ends of a flow, and none of its Gas beyond them.
func wantTruthAtEnds(t *testing.T, p api.Plant, number int, tight api.Span) {
	t.Helper()
	with := func(lo, hi int) api.Plant {
		other := plant(p.Places, slices.Clone(p.Flows)...)
		other.Flows[number].Gas = span(lo, hi)
		return other
	}
	for _, n := range []int{tight.Lo, tight.Hi} {
		if l, e := balance.Truth(with(n, n)); e != api.OK || !isTruth(p, l) || l[number] != n {
			t.Errorf("with %d for the flow %d, Truth of %v = %v, error %d", n, number, p, l, e)
		}
	}
	gas := p.Flows[number].Gas
	if gas.Lo < tight.Lo {
		wantNoTruth(t, "below the tight span", with(gas.Lo, tight.Lo-1))
	}
	if gas.Hi > tight.Hi {
		wantNoTruth(t, "above the tight span", with(tight.Hi+1, gas.Hi))
	}
}

// TestFirstOfGreatPlants checks that no flow of the first truth can be less with those before it as they are.
func TestFirstOfGreatPlants(t *testing.T) {
	d := newDice(3)
	for range 100 {
		p, _ := greatPlant(d)
		first, e := balance.Truth(p)
		if e != api.OK {
			t.Fatalf("Truth of %v has the error %d", p, e)
		}
		other := plant(p.Places, slices.Clone(p.Flows)...)
		for i, n := range first {
			if gas := p.Flows[i].Gas; gas.Lo < n {
				other.Flows[i].Gas = span(gas.Lo, n-1)
				wantNoTruth(t, "a truth before the first one", other)
			}
			other.Flows[i].Gas = span(n, n)
		}
	}
}

// TestOrderOfFlows checks that it makes no difference to the spans, nor to what is proved.
func TestOrderOfFlows(t *testing.T) {
	d := newDice(4)
	for i := range 400 {
		p, _ := greatPlant(d)
		if i%2 == 0 {
			p = smallPlant(d)
		}
		other := plant(p.Places, slices.Clone(p.Flows)...)
		slices.Reverse(other.Flows)
		a, e := balance.Tight(p)
		b, e2 := balance.Tight(other)
		slices.Reverse(b)
		if e != e2 || !slices.Equal(a, b) {
			t.Errorf("%v is within %v, error %d; in another order within %v, error %d", p, a, e, b, e2)
		}
		wrong, e := balance.Wrong(p)
		wrong2, e2 := balance.Wrong(other)
		if e != e2 || !slices.Equal(wrong, wrong2) {
			t.Errorf("%v is wrong in %v, error %d; in another order in %v, error %d", p, wrong, e, wrong2, e2)
		}
		for number := range p.Flows {
			why, e := balance.Why(p, number, i%3 == 0)
			why2, e2 := balance.Why(other, len(p.Flows)-1-number, i%3 == 0)
			if e != e2 || !slices.Equal(why, why2) {
				t.Errorf("the flow %d of %v is proved by %v, error %d; in another order by %v, error %d", number, p, why, e, why2, e2)
			}
		}
	}
}

// TestTightStaysTight checks that nothing changes with the tight spans in the place of all Gas.
func TestTightStaysTight(t *testing.T) {
	d := newDice(5)
	for range 150 {
		p, _ := greatPlant(d)
		tight, _ := balance.Tight(p)
		truth, _ := balance.Truth(p)
		other := plant(p.Places, slices.Clone(p.Flows)...)
		for i, s := range tight {
			other.Flows[i].Gas = s
		}
		wantTight(t, "tight", other, tight...)
		wantTruth(t, "tight", other, truth...)
		for number := range tight {
			wantWhyError(t, "tight", other, number, least, api.ErrNone)
			wantWhyError(t, "tight", other, number, most, api.ErrNone)
		}
	}
}

// TestFlowOfNothing checks that a flow more, with a Gas of 0 alone, changes nothing.
func TestFlowOfNothing(t *testing.T) {
	d := newDice(6)
	for i := range 400 {
		p, _ := greatPlant(d)
		if i%2 == 0 {
			p = smallPlant(d)
		}
		if len(p.Flows) == 0 || len(p.Flows) == api.MaxFlows {
			continue
		}
		like := p.Flows[d.roll(len(p.Flows))]
		other := plant(p.Places, append(slices.Clone(p.Flows), flow(like.From, like.To, 0, 0))...)
		tight, e := balance.Tight(p)
		if e != api.OK {
			places, _ := balance.Wrong(p)
			wantWrong(t, "a flow of nothing", other, places...)
			continue
		}
		truth, _ := balance.Truth(p)
		tight = append(tight, span(0, 0))
		wantTight(t, "a flow of nothing", other, tight...)
		wantTruth(t, "a flow of nothing", other, append(truth, 0)...)
		wantProofs(t, other, tight)
	}
}

// TestMemory checks that arguments stay as they are, and that no call changes what another one returns.
func TestMemory(t *testing.T) {
	p := example()
	p.Flows = append(make([]api.Flow, 0, 20), p.Flows...)
	before := slices.Clone(p.Flows[:cap(p.Flows)])
	for range 3 {
		truth, _ := balance.Truth(p)
		tight, _ := balance.Tight(p)
		why, _ := balance.Why(p, 1, most)
		wrong, _ := balance.Wrong(burnt(101, 102))
		if !slices.Equal(p.Flows[:cap(p.Flows)], before) {
			t.Fatalf("the flows are %v", p.Flows)
		}
		if !slices.Equal(truth, []int{100, 90, 10, 80, 10, 80}) || len(tight) != 6 || tight[4] != span(0, 35) || !slices.Equal(why, []int{0, 2, 3}) || !slices.Equal(wrong, []int{0, 1, 2}) {
			t.Fatalf("the results are %v, %v, %v and %v", truth, tight, why, wrong)
		}
		clear(truth[:cap(truth)])
		clear(tight[:cap(tight)])
		clear(why[:cap(why)])
		clear(wrong[:cap(wrong)])
		if !reflect.DeepEqual(p, example()) {
			t.Fatal("a result shares memory with the plant")
		}
	}
}
