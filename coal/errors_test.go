package coal_test

import (
	"math"
	"testing"

	"gasworks/api"
	"gasworks/coal"
)

func TestYardsThatAreNotValid(t *testing.T) {
	for _, c := range []struct {
		name string
		y    api.Yard
	}{
		{"nothing", api.Yard{}},
		{"no coals", api.Yard{Moves: example().Moves}},
		{"too many coals", full(api.MaxCoals+1, 1)},
		{"too many moves", full(1, api.MaxMoves+1)},
		{"an hour below 0", yard(arrive(-1, 0, 1))},
		{"an hour after the last one", yard(arrive(api.MaxHour+1, 0, 1))},
		{"an hour too early", yard(arrive(5, 0, 1), arrive(7, 0, 1), arrive(6, 0, 1))},
		{"a draw too early", yard(arrive(5, 0, 1), draw(4, 1))},
		{"a coal too many", yard(arrive(5, 2, 1))},
		{"a coal less than Drawn", yard(arrive(5, 0, 1), arrive(5, -2, 1))},
		{"the greatest coal", yard(arrive(5, math.MaxInt, 1))},
		{"the least coal", yard(arrive(5, math.MinInt, 1))},
		{"no tons", yard(arrive(5, 0, 0))},
		{"tons below 0", yard(arrive(5, 0, -1))},
		{"too many tons", yard(arrive(5, 0, api.MaxTons+1))},
		{"no tons drawn", yard(arrive(5, 0, 1), draw(5, 0))},
		{"too many tons drawn", yard(arrive(5, 0, 1), draw(5, api.MaxTons+1))},
		{"not valid after it is short", yard(draw(5, 1), arrive(5, 0, 0))},
		{"a last move that is not valid, with a draw that is short", yard(arrive(5, 0, 3), draw(5, 9), arrive(4, 0, 1))},
	} {
		wantErrors(t, c.name, c.y, api.ErrArg)
	}
}

func TestCoalsThatAreNotValid(t *testing.T) {
	for _, bad := range []api.Span{span(-1, 0), span(2, 1), span(0, api.MaxYield+1), span(math.MinInt, math.MaxInt), span(math.MaxInt, math.MinInt)} {
		for coal := range 2 {
			for what := range 4 {
				y := example()
				spans := []*api.Span{&y.Coals[coal].Gas, &y.Coals[coal].Tar, &y.Coals[coal].Sulphur, &y.Coals[coal].Coke}
				*spans[what] = bad
				wantErrors(t, "a span", y, api.ErrArg)
			}
		}
	}
}

func TestYardsAtTheirLimits(t *testing.T) {
	wide := yard(arrive(0, 1, 1), draw(0, 1), arrive(api.MaxHour, 0, api.MaxTons), draw(api.MaxHour, api.MaxTons))
	wide.Coals[0] = api.Coal{Gas: span(0, api.MaxYield), Tar: span(api.MaxYield, api.MaxYield), Sulphur: span(0, 0), Coke: span(7, 7)}
	for _, y := range []api.Yard{wide, full(1, api.MaxMoves), full(api.MaxCoals, 0)} {
		if _, e := coal.Left(y); e != api.OK {
			t.Errorf("the yard %v has the error %d", y, e)
		}
	}
}

func TestShort(t *testing.T) {
	wantErrors(t, "the last draw", short(), api.ErrShort)
	wantErrors(t, "the first move", yard(draw(5, 1), arrive(5, 0, 9)), api.ErrShort)
	wantErrors(t, "what comes later", yard(arrive(5, 0, 3), draw(5, 4), arrive(5, 0, 9)), api.ErrShort)
	wantErrors(t, "two draws", yard(arrive(5, 0, 3), draw(5, 2), draw(5, 2), arrive(6, 0, 9)), api.ErrShort)
	wantErrors(t, "an empty yard", yard(draw(5, 1)), api.ErrShort)
	if _, e := coal.Left(yard(arrive(5, 0, 3), draw(5, 3))); e != api.OK {
		t.Errorf("a draw of all that is left has the error %d", e)
	}
}

// TestAnyArguments calls all functions with numbers of all sizes: none of them panics or runs on, and none returns a result besides an error.
func TestAnyArguments(t *testing.T) {
	some := []int{math.MinInt, -2, -1, 0, 1, 2, 6, 1 << 20, 1<<20 + 1, math.MaxInt}
	r := newDice(7)
	for range 3000 {
		one := func() int { return some[r.roll(len(some))] }
		y := full(r.roll(9), r.roll(35))
		for range r.roll(3) {
			if len(y.Moves) > 0 {
				y.Moves[r.roll(len(y.Moves))] = api.Move{Hour: one(), Coal: one(), Tons: one()}
			}
			if len(y.Coals) > 0 {
				y.Coals[r.roll(len(y.Coals))].Gas = span(one(), one())
			}
		}
		callAll(t, y, one)
	}
}

func callAll(t *testing.T, y api.Yard, one func() int) {
	t.Helper()
	check := func(name string, e api.Errno, empty bool) {
		if e != api.OK && !empty {
			t.Errorf("%s of %v: a result with the error %d", name, y, e)
		}
	}
	l, e := coal.Drawn(y, one())
	check("Drawn", e, len(l) == 0)
	l, e = coal.Left(y)
	check("Left", e, len(l) == 0)
	b, e := coal.Blend(y, one())
	check("Blend", e, len(b) == 0)
	s, e := coal.Yield(y, one(), one(), one())
	check("Yield", e, s == api.Span{})
	is, e := coal.Can(y, one(), []int{one(), one()})
	check("Can", e, !is)
}
