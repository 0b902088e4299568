package coal_test

import (
	"reflect"
	"slices"
	"testing"

	"gasworks/api"
	"gasworks/coal"
)

// A dice rolls the same numbers in each run of the tests.
type dice struct{ at uint64 }

func newDice(seed uint64) *dice { return &dice{at: seed} }

func (d *dice) roll(n int) int {
	d.at = d.at*6364136223846793005 + 1442695040888963407
	return int(d.at >> 33 % uint64(n))
}

// smallYard returns a yard that is small enough to list all its divisions.
func smallYard(d *dice) api.Yard {
	y := api.Yard{Coals: make([]api.Coal, 1+d.roll(3))}
	for i := range y.Coals {
		lo := d.roll(5)
		y.Coals[i] = api.Coal{Gas: span(lo, lo+d.roll(5)), Tar: span(2, 3), Sulphur: span(0, d.roll(4)), Coke: span(d.roll(3), 2)}
	}
	hour, left := 0, 0
	for range 3 + d.roll(5) {
		hour += d.roll(2)
		if left > 0 && d.roll(3) == 0 {
			tons := 1 + d.roll(min(left, 5))
			y.Moves = append(y.Moves, draw(hour, tons))
			left -= tons
			continue
		}
		tons := 1 + d.roll(3)
		y.Moves = append(y.Moves, arrive(hour, d.roll(len(y.Coals)), tons))
		left += tons
	}
	return y
}

// A heap is a layer as the tests follow it: what of each coal arrived in it, and what is left of it.
type heap struct {
	contents []int
	left     int
}

// A shovel is a part that a draw took from a layer.
type shovel struct{ draw, layer, tons int }

// follow does the moves one after the other.
func follow(y api.Yard) (heaps []heap, shovels []shovel, draws int) {
	for i, m := range y.Moves {
		if m.Coal == api.Drawn {
			for rest, l := m.Tons, 0; rest > 0; l++ {
				if tons := min(rest, heaps[l].left); tons > 0 {
					shovels = append(shovels, shovel{draws, l, tons})
					heaps[l].left -= tons
					rest -= tons
				}
			}
			draws++
			continue
		}
		if i == 0 || y.Moves[i-1].Coal == api.Drawn || y.Moves[i-1].Hour != m.Hour {
			heaps = append(heaps, heap{contents: make([]int, len(y.Coals))})
		}
		h := &heaps[len(heaps)-1]
		h.contents[m.Coal] += m.Tons
		h.left += m.Tons
	}
	return heaps, shovels, draws
}

// divide calls visit with the blend of each draw, for each division of the yard.
func divide(y api.Yard, visit func(blends [][]int)) (draws int) {
	heaps, shovels, draws := follow(y)
	blends := make([][]int, draws)
	for i := range blends {
		blends[i] = make([]int, len(y.Coals))
	}
	var next func(shovel, coal, rest int)
	next = func(at, c, rest int) {
		if at == len(shovels) {
			visit(blends)
			return
		}
		s := shovels[at]
		if c == len(y.Coals) {
			if rest == 0 && at+1 < len(shovels) {
				next(at+1, 0, shovels[at+1].tons)
			} else if rest == 0 {
				next(at+1, 0, 0)
			}
			return
		}
		has := &heaps[s.layer].contents[c]
		for tons := range min(rest, *has) + 1 {
			*has -= tons
			blends[s.draw][c] += tons
			next(at, c+1, rest-tons)
			blends[s.draw][c] -= tons
			*has += tons
		}
	}
	if len(shovels) > 0 {
		next(0, 0, shovels[0].tons)
	}
	return draws
}

// A hull is the least span with all numbers that were put in.
type hull struct {
	span api.Span
	some bool
}

func (h *hull) put(n int) {
	if !h.some {
		h.span = span(n, n)
	}
	h.some = true
	h.span = span(min(h.span.Lo, n), max(h.span.Hi, n))
}

func spanOf(c api.Coal, what int) api.Span {
	return []api.Span{c.Gas, c.Tar, c.Sulphur, c.Coke}[what]
}

// given returns what the draws from first to last give with these blends.
func given(y api.Yard, blends [][]int, first, last, what int) api.Span {
	var all api.Span
	for _, blend := range blends[first : last+1] {
		for c, tons := range blend {
			all.Lo += tons * spanOf(y.Coals[c], what).Lo
			all.Hi += tons * spanOf(y.Coals[c], what).Hi
		}
	}
	return all
}

// eachBlend calls visit with each list of numbers from 0 to most.
func eachBlend(coals, most int, visit func(tons []int)) {
	tons := make([]int, coals)
	var next func(c int)
	next = func(c int) {
		if c == coals {
			visit(tons)
			return
		}
		for tons[c] = 0; tons[c] <= most; tons[c]++ {
			next(c + 1)
		}
	}
	next(0)
}

// TestDivisions holds the results for small yards against all divisions that there are.
func TestDivisions(t *testing.T) {
	d := newDice(1)
	for range 400 {
		y := smallYard(d)
		_, shovels, draws := follow(y)
		for k := range draws {
			var parts []api.Part
			for _, s := range shovels {
				if s.draw == k {
					parts = append(parts, part(s.layer, s.tons))
				}
			}
			wantDrawn(t, "of all divisions", y, k, parts...)
			checkBlends(t, y, k)
			for last := k; last < draws; last++ {
				checkYields(t, y, k, last)
			}
		}
		checkLeft(t, y)
		if t.Failed() {
			t.Fatalf("the yard is %v", y)
		}
	}
}

func checkLeft(t *testing.T, y api.Yard) {
	t.Helper()
	heaps, _, _ := follow(y)
	var left []api.Part
	for l, h := range heaps {
		if h.left > 0 {
			left = append(left, part(l, h.left))
		}
	}
	wantLeft(t, "of all divisions", y, left...)
}

func checkBlends(t *testing.T, y api.Yard, k int) {
	t.Helper()
	hulls := make([]hull, len(y.Coals))
	can := map[[api.MaxCoals]int]bool{}
	divide(y, func(blends [][]int) {
		var key [api.MaxCoals]int
		copy(key[:], blends[k])
		can[key] = true
		for c, tons := range blends[k] {
			hulls[c].put(tons)
		}
	})
	var want []api.Span
	for _, h := range hulls {
		want = append(want, h.span)
	}
	wantBlend(t, "of all divisions", y, k, want...)
	eachBlend(len(y.Coals), 6, func(tons []int) {
		var key [api.MaxCoals]int
		copy(key[:], tons)
		wantCan(t, y, k, can[key], tons...)
	})
}

func checkYields(t *testing.T, y api.Yard, first, last int) {
	t.Helper()
	for what := range 4 {
		var least, greatest hull
		divide(y, func(blends [][]int) {
			g := given(y, blends, first, last, what)
			least.put(g.Lo)
			greatest.put(g.Hi)
		})
		wantYield(t, "of all divisions", y, first, last, what, span(least.span.Lo, greatest.span.Hi))
	}
}

// TestYieldOfAll checks that an empty yard has given all coals, each with its own span.
func TestYieldOfAll(t *testing.T) {
	d := newDice(2)
	for range 200 {
		y := smallYard(d)
		left, e := coal.Left(y)
		if e != api.OK {
			t.Fatalf("the yard %v has the error %d", y, e)
		}
		rest := 0
		for _, p := range left {
			rest += p.Tons
		}
		if rest > 0 {
			y.Moves = append(y.Moves, draw(99, rest))
		}
		_, _, draws := follow(y)
		var all api.Span
		for _, m := range y.Moves {
			if m.Coal != api.Drawn {
				all.Lo += m.Tons * y.Coals[m.Coal].Gas.Lo
				all.Hi += m.Tons * y.Coals[m.Coal].Gas.Hi
			}
		}
		wantYield(t, "of all", y, 0, draws-1, api.OfGas, all)
	}
}

// TestYieldWithinSum checks that several draws give no more, and no less, than each of them can.
func TestYieldWithinSum(t *testing.T) {
	d := newDice(3)
	for range 200 {
		y := smallYard(d)
		_, _, draws := follow(y)
		if draws == 0 {
			continue
		}
		var sum api.Span
		for k := range draws {
			s, _ := coal.Yield(y, k, k, api.OfGas)
			sum.Lo += s.Lo
			sum.Hi += s.Hi
		}
		if s, e := coal.Yield(y, 0, draws-1, api.OfGas); e != api.OK || s.Lo < sum.Lo || s.Hi > sum.Hi {
			t.Fatalf("all draws of %v give %v, error %d; each of them %v together", y, s, e, sum)
		}
	}
}

// results returns all that the package says of a draw.
func results(t *testing.T, y api.Yard, k int) []any {
	t.Helper()
	drawn, e := coal.Drawn(y, k)
	blend, e2 := coal.Blend(y, k)
	yield, e3 := coal.Yield(y, k, k, api.OfGas)
	all := []any{drawn, blend, yield, e, e2, e3}
	eachBlend(len(y.Coals), 4, func(tons []int) {
		can, e := coal.Can(y, k, tons)
		all = append(all, can, e)
	})
	return all
}

// TestOrderInLayer checks that the order of coals that arrive together makes no difference.
func TestOrderInLayer(t *testing.T) {
	d := newDice(4)
	for range 300 {
		y := smallYard(d)
		other := api.Yard{Coals: y.Coals, Moves: slices.Clone(y.Moves)}
		for i := 1; i < len(other.Moves); i++ {
			a, b := other.Moves[i-1], other.Moves[i]
			if a.Hour == b.Hour && a.Coal != api.Drawn && b.Coal != api.Drawn {
				other.Moves[i-1], other.Moves[i] = b, a
			}
		}
		left, _ := coal.Left(y)
		wantLeft(t, "in another order", other, left...)
		_, _, draws := follow(y)
		for k := range draws {
			if a, b := results(t, y, k), results(t, other, k); !reflect.DeepEqual(a, b) {
				t.Fatalf("the draw %d of %v is %v; in another order it is %v", k, y, a, b)
			}
		}
	}
}

// TestLaterMoves checks that later moves make no difference to a draw.
func TestLaterMoves(t *testing.T) {
	d := newDice(5)
	for range 300 {
		y := smallYard(d)
		draws := 0
		for i, m := range y.Moves {
			if m.Coal != api.Drawn {
				continue
			}
			sooner := api.Yard{Coals: y.Coals, Moves: y.Moves[:i+1]}
			if a, b := results(t, sooner, draws), results(t, y, draws); !reflect.DeepEqual(a, b) {
				t.Fatalf("the draw %d of %v is %v; with all moves it is %v", draws, y, a, b)
			}
			draws++
		}
	}
}

// TestMemory checks that arguments stay as they are, that results share no memory, and that no call changes what another one returns.
func TestMemory(t *testing.T) {
	y := example()
	tons := []int{25, 15}
	for range 2 {
		drawn, _ := coal.Drawn(y, 1)
		left, _ := coal.Left(y)
		blend, _ := coal.Blend(y, 1)
		if _, e := coal.Yield(y, 0, 1, api.OfTar); e != api.OK {
			t.Errorf("Yield has the error %d", e)
		}
		if can, _ := coal.Can(y, 0, tons); !can {
			t.Errorf("Can of 0 with %v is false", tons)
		}
		if !reflect.DeepEqual(y, example()) || !slices.Equal(tons, []int{25, 15}) {
			t.Fatalf("the arguments are %v and %v", y, tons)
		}
		if !slices.Equal(drawn, []api.Part{part(0, 10), part(1, 10)}) || !slices.Equal(left, []api.Part{part(1, 5)}) || !slices.Equal(blend, []api.Span{span(0, 10), span(10, 20)}) {
			t.Fatalf("the results are %v, %v and %v", drawn, left, blend)
		}
		clear(drawn[:cap(drawn)])
		clear(left[:cap(left)])
		clear(blend[:cap(blend)])
		if !reflect.DeepEqual(y, example()) {
			t.Fatal("a result shares memory with the yard")
		}
	}
}
