package coal_test

import (
	"math"
	"slices"
	"testing"

	"gasworks/api"
	"gasworks/coal"
)

func span(lo, hi int) api.Span { return api.Span{Lo: lo, Hi: hi} }

func part(layer, tons int) api.Part { return api.Part{Layer: layer, Tons: tons} }

func arrive(hour, coal, tons int) api.Move { return api.Move{Hour: hour, Coal: coal, Tons: tons} }

func draw(hour, tons int) api.Move { return api.Move{Hour: hour, Coal: api.Drawn, Tons: tons} }

// twoCoals returns the coals of the chapter's examples.
func twoCoals() []api.Coal {
	return []api.Coal{
		{Gas: span(400, 500), Tar: span(5, 6), Sulphur: span(10, 12), Coke: span(60, 70)},
		{Gas: span(600, 650), Tar: span(8, 9), Sulphur: span(30, 40), Coke: span(50, 55)},
	}
}

// example returns the yard of the chapter's examples.
func example() api.Yard {
	return yard(arrive(5, 0, 30), arrive(5, 1, 20), draw(8, 40), arrive(9, 1, 15), draw(10, 20))
}

// yard returns a yard of the chapter's coals.
func yard(moves ...api.Move) api.Yard { return api.Yard{Coals: twoCoals(), Moves: moves} }

// short returns a yard whose second draw takes one hundredweight too many.
func short() api.Yard {
	return yard(arrive(5, 0, 30), arrive(5, 1, 20), draw(8, 40), arrive(9, 1, 15), draw(10, 26))
}

// full returns a yard of so many coals and moves.
func full(coals, moves int) api.Yard {
	y := api.Yard{Coals: make([]api.Coal, coals), Moves: make([]api.Move, moves)}
	for i := range y.Moves {
		y.Moves[i] = arrive(i, 0, 1)
	}
	return y
}

func wantParts(t *testing.T, name string, got []api.Part, e api.Errno, want ...api.Part) {
	t.Helper()
	if e != api.OK || !slices.Equal(got, want) {
		t.Errorf("%s = %v, error %d; want %v", name, got, e, want)
	}
}

func wantDrawn(t *testing.T, name string, y api.Yard, draw int, want ...api.Part) {
	t.Helper()
	got, e := coal.Drawn(y, draw)
	wantParts(t, name, got, e, want...)
}

func wantLeft(t *testing.T, name string, y api.Yard, want ...api.Part) {
	t.Helper()
	got, e := coal.Left(y)
	wantParts(t, name, got, e, want...)
}

func wantBlend(t *testing.T, name string, y api.Yard, draw int, want ...api.Span) {
	t.Helper()
	if got, e := coal.Blend(y, draw); e != api.OK || !slices.Equal(got, want) {
		t.Errorf("%s = %v, error %d; want %v", name, got, e, want)
	}
}

func wantYield(t *testing.T, name string, y api.Yard, first, last, what int, want api.Span) {
	t.Helper()
	if got, e := coal.Yield(y, first, last, what); e != api.OK || got != want {
		t.Errorf("%s = %v, error %d; want %v", name, got, e, want)
	}
}

func wantCan(t *testing.T, y api.Yard, draw int, want bool, tons ...int) {
	t.Helper()
	if got, e := coal.Can(y, draw, tons); e != api.OK || got != want {
		t.Errorf("Can of %d with %v = %v, error %d; want %v", draw, tons, got, e, want)
	}
}

// wantError checks that there is this error, and that the other result is empty.
func wantError(t *testing.T, name string, e, want api.Errno, empty bool) {
	t.Helper()
	if e != want {
		t.Errorf("%s: error %d; want %d", name, e, want)
	}
	if !empty {
		t.Errorf("%s: a result with the error %d", name, e)
	}
}

// wantErrors checks that each function returns the error for this yard, whatever else it is given.
func wantErrors(t *testing.T, name string, y api.Yard, want api.Errno) {
	t.Helper()
	l, e := coal.Left(y)
	wantError(t, name+": Left", e, want, len(l) == 0)
	for _, draw := range []int{-1, 0, 1, 99} {
		l, e := coal.Drawn(y, draw)
		wantError(t, name+": Drawn", e, want, len(l) == 0)
		b, e := coal.Blend(y, draw)
		wantError(t, name+": Blend", e, want, len(b) == 0)
		for _, what := range []int{api.OfGas, -1} {
			s, e := coal.Yield(y, draw, draw, what)
			wantError(t, name+": Yield", e, want, s == api.Span{})
		}
		for _, tons := range [][]int{nil, {25, 15}} {
			is, e := coal.Can(y, draw, tons)
			wantError(t, name+": Can", e, want, !is)
		}
	}
}

func TestDrawn(t *testing.T) {
	wantDrawn(t, "the draw 0", example(), 0, part(0, 40))
	wantDrawn(t, "the draw 1", example(), 1, part(0, 10), part(1, 10))
	three := yard(arrive(1, 0, 2), arrive(2, 0, 3), arrive(3, 1, 4), draw(3, 2), draw(4, 1), draw(4, 6))
	wantDrawn(t, "a whole layer", three, 0, part(0, 2))
	wantDrawn(t, "one hundredweight", three, 1, part(1, 1))
	wantDrawn(t, "the rest", three, 2, part(1, 2), part(2, 4))
	for _, draw := range []int{-1, 2, 3, math.MinInt, math.MaxInt} {
		l, e := coal.Drawn(example(), draw)
		wantError(t, "no such draw", e, api.ErrRange, len(l) == 0)
	}
	l, e := coal.Drawn(yard(arrive(1, 0, 2)), 0)
	wantError(t, "no draw", e, api.ErrRange, len(l) == 0)
}

func TestLayers(t *testing.T) {
	wantLeft(t, "of one hour", yard(arrive(5, 0, 1), arrive(5, 1, 2), arrive(5, 0, 4)), part(0, 7))
	wantLeft(t, "of two hours", yard(arrive(5, 0, 1), arrive(6, 0, 2)), part(0, 1), part(1, 2))
	wantLeft(t, "after a draw of the hour", yard(arrive(5, 0, 3), draw(5, 1), arrive(5, 0, 4), arrive(5, 1, 1)), part(0, 2), part(1, 5))
	wantLeft(t, "after a draw that left nothing", yard(arrive(5, 0, 3), draw(5, 3), arrive(5, 0, 4)), part(1, 4))
}

func TestLeft(t *testing.T) {
	wantLeft(t, "the example", example(), part(1, 5))
	wantLeft(t, "no moves", yard())
	wantLeft(t, "all drawn", yard(arrive(1, 0, 2), arrive(2, 1, 3), draw(2, 5)))
	wantLeft(t, "nothing drawn", yard(arrive(1, 0, 2), arrive(2, 1, 3)), part(0, 2), part(1, 3))
	wantLeft(t, "some of the middle one", yard(arrive(1, 0, 2), arrive(2, 1, 3), arrive(3, 1, 4), draw(4, 4)), part(1, 1), part(2, 4))
}

func TestBlend(t *testing.T) {
	wantBlend(t, "the draw 0", example(), 0, span(20, 30), span(10, 20))
	wantBlend(t, "the draw 1", example(), 1, span(0, 10), span(10, 20))
	wantBlend(t, "a whole layer", yard(arrive(5, 0, 30), arrive(5, 1, 20), draw(5, 50)), 0, span(30, 30), span(20, 20))
	wantBlend(t, "one coal", yard(arrive(5, 1, 30), draw(5, 7), draw(6, 8)), 1, span(0, 0), span(8, 8))
	wantBlend(t, "after a draw of the layer", yard(arrive(5, 0, 3), arrive(5, 1, 2), draw(5, 2), draw(6, 3)), 1, span(1, 3), span(0, 2))
	for _, draw := range []int{-1, 2, math.MinInt, math.MaxInt} {
		l, e := coal.Blend(example(), draw)
		wantError(t, "no such draw", e, api.ErrRange, len(l) == 0)
	}
}

func TestYield(t *testing.T) {
	wantYield(t, "gas of the draw 0", example(), 0, 0, api.OfGas, span(18000, 23000))
	wantYield(t, "sulphur of the draw 1", example(), 1, 1, api.OfSulphur, span(400, 800))
	wantYield(t, "tar of both draws", example(), 0, 1, api.OfTar, span(390, 450))
	wantYield(t, "coke of the draw 0", example(), 0, 0, api.OfCoke, span(2200, 2650))
	for _, c := range []struct{ first, last, what int }{
		{1, 0, api.OfGas}, {-1, 0, api.OfGas}, {-1, -1, api.OfGas}, {0, 2, api.OfGas}, {2, 2, api.OfGas},
		{math.MinInt, math.MaxInt, api.OfGas}, {0, math.MaxInt, api.OfGas},
		{0, 0, -1}, {0, 0, 4}, {0, 0, math.MaxInt},
	} {
		s, e := coal.Yield(example(), c.first, c.last, c.what)
		wantError(t, "no such yield", e, api.ErrRange, s == api.Span{})
	}
}

// TestYieldOrders checks coals whose order by the least that they give is not that by the greatest.
func TestYieldOrders(t *testing.T) {
	y := api.Yard{
		Coals: []api.Coal{{Gas: span(1, 9)}, {Gas: span(3, 4)}, {Gas: span(2, 5)}},
		Moves: []api.Move{arrive(1, 0, 2), arrive(1, 1, 3), arrive(1, 2, 4), draw(1, 3), draw(2, 5)},
	}
	wantYield(t, "the draw 0", y, 0, 0, api.OfGas, span(2*1+1*2, 2*9+1*5))
	wantYield(t, "the draw 1", y, 1, 1, api.OfGas, span(2*1+3*2, 2*9+3*5))
	wantYield(t, "both", y, 0, 1, api.OfGas, span(2*1+4*2+2*3, 2*9+4*5+2*4))
}

// TestYieldGreatest checks the most that a yard can give.
func TestYieldGreatest(t *testing.T) {
	y := api.Yard{Coals: []api.Coal{{Gas: span(0, api.MaxYield)}}}
	for range api.MaxMoves / 2 {
		y.Moves = append(y.Moves, arrive(api.MaxHour, 0, api.MaxTons))
	}
	for range api.MaxMoves / 2 {
		y.Moves = append(y.Moves, draw(api.MaxHour, api.MaxTons))
	}
	wantYield(t, "all", y, 0, api.MaxMoves/2-1, api.OfGas, span(0, api.MaxMoves/2*api.MaxTons*api.MaxYield))
	wantCan(t, y, 0, true, api.MaxTons)
}

func TestCan(t *testing.T) {
	wantCan(t, example(), 0, true, 25, 15)
	wantCan(t, example(), 0, false, 19, 21)
	wantCan(t, example(), 1, true, 4, 16)
	wantCan(t, example(), 0, true, 20, 20)
	wantCan(t, example(), 0, true, 30, 10)
	wantCan(t, example(), 0, false, 31, 9)
	wantCan(t, example(), 0, false, 25, 14)
	wantCan(t, example(), 0, false, 26, 15)
	wantCan(t, example(), 0, false, 0, 0)
	wantCan(t, example(), 1, false, -1, 21)
	wantCan(t, example(), 1, false, 21, -1)
	wantCan(t, example(), 0, false, math.MaxInt, math.MaxInt)
	wantCan(t, example(), 0, false, math.MinInt, math.MinInt)
	wantCan(t, example(), 0, false, math.MinInt, math.MinInt+40)
	for _, tons := range [][]int{nil, {40}, {25, 15, 0}} {
		is, e := coal.Can(example(), 0, tons)
		wantError(t, "not a number for each coal", e, api.ErrRange, !is)
	}
	for _, draw := range []int{-1, 2, math.MinInt, math.MaxInt} {
		is, e := coal.Can(example(), draw, []int{25, 15})
		wantError(t, "no such draw", e, api.ErrRange, !is)
	}
}

// TestCanSets checks blends of which each coal alone is within its span, but two coals together are not.
func TestCanSets(t *testing.T) {
	y := api.Yard{Coals: make([]api.Coal, 4), Moves: []api.Move{
		arrive(1, 0, 2), arrive(1, 1, 2), arrive(1, 2, 4), arrive(1, 3, 4), arrive(2, 2, 2), arrive(2, 3, 2), draw(3, 14),
	}}
	wantCan(t, y, 0, true, 2, 2, 5, 5)
	wantCan(t, y, 0, true, 2, 2, 6, 4)
	wantCan(t, y, 0, false, 2, 1, 6, 5)
	wantCan(t, y, 0, false, 1, 1, 6, 6)
	y = api.Yard{Coals: make([]api.Coal, 3), Moves: []api.Move{
		arrive(1, 0, 2), arrive(1, 1, 2), arrive(2, 0, 3), arrive(2, 2, 3), draw(3, 7),
	}}
	wantCan(t, y, 0, true, 2, 2, 3)
	wantCan(t, y, 0, true, 5, 2, 0)
	wantCan(t, y, 0, false, 5, 1, 1)
	wantCan(t, y, 0, false, 2, 1, 4)
	wantCan(t, y, 0, false, 3, 1, 3)
}

// TestCanMany checks that a yard with as many layers and coals as there can be takes no long time.
func TestCanMany(t *testing.T) {
	y := full(api.MaxCoals, api.MaxMoves)
	for i := range y.Moves {
		y.Moves[i] = arrive(i/6, i%6, 1000)
	}
	y.Moves[api.MaxMoves-1] = draw(9, 10000)
	wantCan(t, y, 0, true, 1667, 1667, 1667, 1667, 1666, 1666)
	wantCan(t, y, 0, false, 5001, 4999, 0, 0, 0, 0)
}
