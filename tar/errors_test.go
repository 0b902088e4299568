package tar_test

import (
	"math"
	"slices"
	"testing"

	"gasworks/api"
	"gasworks/tar"
)

// wantNotValid checks that all functions refuse a yard, whatever the plan is.
func wantNotValid(t *testing.T, name string, y api.Yards) {
	t.Helper()
	for _, plan := range [][]int{{3, 1}, {1, 1}, {9, -1}, {0}, nil} {
		wantNot(t, name, y, plan, api.ErrArg)
	}
	if l, n, e := tar.Plan(y); len(l) != 0 || n != 0 || e != api.ErrArg {
		t.Errorf("%s: Plan of %v = %v, %d, error %d; want error %d", name, y, l, n, e, api.ErrArg)
	}
}

// wantValid checks that all functions take a yard.
func wantValid(t *testing.T, name string, y api.Yards) {
	t.Helper()
	idle := make([]int, len(y.Stills))
	if _, e := tar.Left(y, idle); e != api.OK {
		t.Errorf("%s: Left of %v has the error %d", name, y, e)
	}
	if _, _, e := tar.Income(y, idle); e != api.OK {
		t.Errorf("%s: Income of %v has the error %d", name, y, e)
	}
	if _, _, e := tar.Plan(y); e != api.OK {
		t.Errorf("%s: Plan of %v has the error %d", name, y, e)
	}
}

// TestNumbersBeyondTheirLimits sets each number of a yard to its limits, and beyond them.
func TestNumbersBeyondTheirLimits(t *testing.T) {
	const tons, price = 1 << 20, 1_000_000
	for name, f := range map[string]struct {
		at         func(y *api.Yards) *int
		valid, not []int
	}{
		"the first Stock":    {func(y *api.Yards) *int { return &y.Stock[0] }, []int{0, tons}, []int{-1, tons + 1}},
		"the last Stock":     {func(y *api.Yards) *int { return &y.Stock[2] }, []int{0, tons}, []int{-1, tons + 1}},
		"the first In":       {func(y *api.Yards) *int { return &y.Stills[0].In }, []int{0}, []int{-1, 1, 2, 3}},
		"the last In":        {func(y *api.Yards) *int { return &y.Stills[1].In }, []int{0, 1}, []int{-1, 2, 3}},
		"the first Takes":    {func(y *api.Yards) *int { return &y.Stills[0].Takes }, []int{1, tons}, []int{-1, 0, tons + 1}},
		"the last Takes":     {func(y *api.Yards) *int { return &y.Stills[1].Takes }, []int{1, tons}, []int{-1, 0, tons + 1}},
		"the first Out.Lo":   {func(y *api.Yards) *int { return &y.Stills[0].Out[1].Lo }, []int{0, 3}, []int{-1, 4, tons + 1}},
		"the first Out.Hi":   {func(y *api.Yards) *int { return &y.Stills[0].Out[1].Hi }, []int{2, tons}, []int{-1, 0, 1, tons + 1}},
		"the last Out.Lo":    {func(y *api.Yards) *int { return &y.Stills[1].Out[2].Lo }, []int{0, 3}, []int{-1, 4, tons + 1}},
		"the last Out.Hi":    {func(y *api.Yards) *int { return &y.Stills[1].Out[2].Hi }, []int{3, tons}, []int{-1, 0, 2, tons + 1}},
		"what it takes, Lo":  {func(y *api.Yards) *int { return &y.Stills[0].Out[0].Lo }, []int{0}, []int{-1, 1, tons}},
		"what it takes, Hi":  {func(y *api.Yards) *int { return &y.Stills[0].Out[0].Hi }, []int{0}, []int{-1, 1, tons}},
		"what it took, Lo":   {func(y *api.Yards) *int { return &y.Stills[1].Out[1].Lo }, []int{0}, []int{-1, 1, tons}},
		"what it took, Hi":   {func(y *api.Yards) *int { return &y.Stills[1].Out[1].Hi }, []int{0}, []int{-1, 1, tons}},
		"the good before Lo": {func(y *api.Yards) *int { return &y.Stills[1].Out[0].Lo }, []int{0}, []int{-1, 1, tons}},
		"the good before Hi": {func(y *api.Yards) *int { return &y.Stills[1].Out[0].Hi }, []int{0}, []int{-1, 1, tons}},
		"the first Pay":      {func(y *api.Yards) *int { return &y.Stills[0].Pay }, []int{0, price}, []int{-1, price + 1}},
		"the last Pay":       {func(y *api.Yards) *int { return &y.Stills[1].Pay }, []int{0, price}, []int{-1, price + 1}},
		"the first Most":     {func(y *api.Yards) *int { return &y.Stills[0].Most }, []int{0, 8}, []int{-1, 9}},
		"the last Most":      {func(y *api.Yards) *int { return &y.Stills[1].Most }, []int{0, 8}, []int{-1, 9}},
		"the first Good":     {func(y *api.Yards) *int { return &y.Sales[0].Good }, []int{0, 2}, []int{-1, 3}},
		"the last Good":      {func(y *api.Yards) *int { return &y.Sales[2].Good }, []int{0, 2}, []int{-1, 3}},
		"the first sale":     {func(y *api.Yards) *int { return &y.Sales[0].Most }, []int{0, tons}, []int{-1, tons + 1}},
		"the last sale":      {func(y *api.Yards) *int { return &y.Sales[2].Most }, []int{0, tons}, []int{-1, tons + 1}},
		"the first Price":    {func(y *api.Yards) *int { return &y.Sales[0].Price }, []int{0, price}, []int{-1, price + 1}},
		"the last Price":     {func(y *api.Yards) *int { return &y.Sales[2].Price }, []int{0, price}, []int{-1, price + 1}},
	} {
		for _, number := range f.valid {
			y := yards()
			*f.at(&y) = number
			wantValid(t, name, y)
		}
		for _, number := range append(f.not, math.MinInt, math.MaxInt) {
			y := yards()
			*f.at(&y) = number
			wantNotValid(t, name, y)
		}
	}
}

// TestWhatMustNotComeOut checks spans of goods that must not come out of a still, also valid ones.
func TestWhatMustNotComeOut(t *testing.T) {
	for _, s := range []api.Span{span(0, 1), span(1, 1), span(3, 5), span(-1, -1), span(-1, 0), span(-1, 1), span(1, 0), span(1<<20, 1<<20), span(1<<20+1, 1<<20+1)} {
		for _, at := range [][2]int{{0, 0}, {1, 0}, {1, 1}} {
			y := yards()
			y.Stills[at[0]].Out[at[1]] = s
			wantNotValid(t, "what must not come out", y)
		}
	}
	for _, s := range []api.Span{span(-1, -1), span(-1, 5), span(5, 4), span(0, 1<<20+1), span(1<<20+1, 1<<20+1), span(1<<20+1, 5), span(math.MinInt, math.MaxInt), span(math.MaxInt, math.MinInt)} {
		for _, at := range [][2]int{{0, 1}, {0, 2}, {1, 2}} {
			y := yards()
			y.Stills[at[0]].Out[at[1]] = s
			wantNotValid(t, "no span of what comes out", y)
		}
	}
	y := yards()
	y.Stills[0].Out[1], y.Stills[1].Out[2] = span(0, 0), span(0, 0)
	wantValid(t, "nothing comes out", y)
}

// anyStill returns a still of so many goods from which nothing comes.
func anyStill(in, goods int) api.Still {
	return api.Still{In: in, Takes: 1, Out: make([]api.Span, goods), Most: 1}
}

func TestTooMany(t *testing.T) {
	for n := range 9 {
		y := api.Yards{Stock: make([]int, n)}
		if n >= 1 && n <= 6 {
			wantValid(t, "goods", y)
		} else {
			wantNotValid(t, "goods", y)
		}
		y = api.Yards{Stock: []int{5}, Stills: slices.Repeat([]api.Still{anyStill(0, 1)}, n)}
		if n <= 4 {
			wantValid(t, "stills", y)
		} else {
			wantNotValid(t, "stills", y)
		}
		y = api.Yards{Stock: []int{5}, Sales: make([]api.Sale, n)}
		if n <= 6 {
			wantValid(t, "sales", y)
		} else {
			wantNotValid(t, "sales", y)
		}
		y = api.Yards{Stock: []int{5, 6, 7}, Stills: []api.Still{anyStill(0, 3), anyStill(1, n)}}
		if n == 3 {
			wantValid(t, "what comes out", y)
		} else {
			wantNotValid(t, "what comes out", y)
		}
	}
	wantNotValid(t, "no goods", api.Yards{Stills: []api.Still{{Takes: 1}}})
	wantNotValid(t, "far too many goods", api.Yards{Stock: make([]int, 1000)})
	wantNotValid(t, "far too many stills", api.Yards{Stock: []int{5}, Stills: slices.Repeat([]api.Still{anyStill(0, 1)}, 1000)})
	wantNotValid(t, "far too many sales", api.Yards{Stock: []int{5}, Sales: make([]api.Sale, 1000)})
}

// TestOrderOfStills checks that no still has a lesser In than the one before it.
func TestOrderOfStills(t *testing.T) {
	for _, c := range []struct {
		in    []int
		valid bool
	}{
		{[]int{0, 1, 2, 3}, true}, {[]int{5, 5, 5, 5}, true}, {[]int{0, 0, 3, 3}, true}, {[]int{2, 4}, true}, {[]int{5}, true},
		{[]int{1, 0}, false}, {[]int{0, 2, 1}, false}, {[]int{0, 1, 2, 1}, false}, {[]int{5, 0}, false}, {[]int{1, 0, 1, 2}, false}, {[]int{0, 6}, false}, {[]int{6}, false},
	} {
		y := api.Yards{Stock: make([]int, 6)}
		for _, in := range c.in {
			y.Stills = append(y.Stills, anyStill(in, 6))
		}
		if c.valid {
			wantValid(t, "in order", y)
		} else {
			wantNotValid(t, "not in order", y)
		}
	}
}

// TestPlansThatAreNone checks plans with too few or too many numbers, or with one that is too great or below 0.
func TestPlansThatAreNone(t *testing.T) {
	for _, plan := range [][]int{nil, {}, {3}, {3, 1, 0}, {0, 0, 0, 0}, {-1, 0}, {0, -1}, {5, 0}, {0, 3}, {9, 9}, {math.MinInt, 0}, {0, math.MaxInt}, {math.MaxInt, math.MinInt}, make([]int, 1000)} {
		wantNot(t, "no plan", yards(), plan, api.ErrRange)
	}
	wantNot(t, "no plan, and short before", yards(), []int{4, 3}, api.ErrRange)
	wantNot(t, "no plan, and short", yards(), []int{1, 1, 1}, api.ErrRange)
	y := yards()
	y.Stills = nil
	wantNot(t, "without stills", y, []int{0}, api.ErrRange)
	y = yards()
	y.Stock[0], y.Stock[1] = 24, 8
	wantLeft(t, "the most", y, []int{4, 2}, span(0, 0), span(8, 12), span(11, 15))
	wantNot(t, "more than the most", y, []int{5, 2}, api.ErrRange)
	wantNot(t, "more than the most", y, []int{4, 3}, api.ErrRange)
}

func TestShortPlans(t *testing.T) {
	for _, plan := range [][]int{{4, 0}, {4, 2}, {0, 1}, {0, 2}, {1, 1}, {1, 2}, {2, 2}, {3, 2}} {
		wantNot(t, "short", yards(), plan, api.ErrShort)
	}
	for _, plan := range [][]int{{0, 0}, {1, 0}, {2, 0}, {3, 0}, {2, 1}, {3, 1}} {
		if _, e := tar.Left(yards(), plan); e != api.OK {
			t.Errorf("Left of %v has the error %d", plan, e)
		}
	}
}

// TestWeighingsThatAreNone sets each number of a weighing to its limits, and beyond them.
func TestWeighingsThatAreNone(t *testing.T) {
	good := cart(10, 12, 30, 31)
	for _, w := range []api.Weighing{cart(-1, 12, 30, 31), cart(13, 12, 30, 31), cart(10, 9, 30, 31), cart(10, 100_001, 30, 31), cart(10, -1, 30, 31), cart(-2, -1, 30, 31), cart(10, 12, -1, 31), cart(10, 12, 32, 31), cart(10, 12, 30, 29), cart(10, 12, 30, 100_001), cart(10, 12, 100_001, 100_001), cart(32, 40, 30, 31), cart(10, 12, 0, 9), cart(1, 1, 0, 0), cart(100_001, 100_001, 100_001, 100_001), cart(math.MinInt, math.MaxInt, 30, 31), cart(10, 12, math.MinInt, math.MaxInt), cart(0, math.MaxInt, 0, math.MaxInt), cart(math.MinInt, 12, 30, 31), cart(10, 12, 30, math.MaxInt)} {
		wantNotCarried(t, "alone", []api.Weighing{w}, api.ErrArg)
		wantNotCarried(t, "the first one", []api.Weighing{w, good}, api.ErrArg)
		wantNotCarried(t, "the last one", append(slices.Repeat([]api.Weighing{good}, 31), w), api.ErrArg)
		for _, n := range []int{33, 1000} {
			wantNotCarried(t, "too many", slices.Repeat([]api.Weighing{w}, n), api.ErrLong)
		}
	}
	wantNotCarried(t, "too many", slices.Repeat([]api.Weighing{good}, 33), api.ErrLong)
	wantCarried(t, "not too many", slices.Repeat([]api.Weighing{good}, 32), span(32*18, 32*21), slices.Repeat([]api.Span{span(18, 21)}, 32)...)
}

// TestAnyArguments calls all functions with numbers of all sizes: none of them panics or runs on, and none returns a result besides an error.
func TestAnyArguments(t *testing.T) {
	some := []int{math.MinInt, -1, 0, 0, 0, 1, 1, 1, 2, 2, 3, 4, 5, 6, 8, 9, 12, 20, 30, 1_000_000, 1_000_001, 1 << 20, 1<<20 + 1, 100_000, 100_001, math.MaxInt}
	dice := newDice(1)
	number := func() int { return some[dice.roll(len(some))] }
	seen, carried := map[api.Errno]int{}, map[api.Errno]int{}
	for range 20_000 {
		y := yards()
		switch dice.roll(8) {
		case 0:
			y.Stock[dice.roll(3)] = number()
		case 1:
			y.Stills[dice.roll(2)] = api.Still{In: number(), Takes: number(), Out: y.Stills[0].Out, Pay: number(), Most: number()}
		case 2:
			y.Stills[dice.roll(2)].Out[dice.roll(3)] = span(number(), number())
		case 3:
			y.Sales[dice.roll(3)] = sale(number(), number(), number())
		case 4:
			y.Stock = make([]int, min(1000, max(0, number())))
		}
		plan := []int{dice.roll(5), dice.roll(3)}
		if dice.roll(4) == 0 {
			plan[dice.roll(2)] = number()
		}
		left, e := tar.Left(y, plan)
		seen[e]++
		if n, sold, e2 := tar.Income(y, plan); e != e2 || e != api.OK && len(left)+n+len(sold) != 0 {
			t.Errorf("Left of %v, %v = %v, error %d; Income = %d, %v, error %d", y, plan, left, e, n, sold, e2)
		}
		if best, n, e2 := tar.Plan(y); (e == api.ErrArg) != (e2 == api.ErrArg) || e2 != api.OK && len(best)+n != 0 {
			t.Errorf("Plan of %v = %v, %d, error %d; Left has the error %d", y, best, n, e2, e)
		}
		l := []api.Weighing{cart(10, 12, 30, 31), cart(number(), number(), number(), number())}
		each, all, e := tar.Carried(l)
		carried[e]++
		if e != api.OK && (len(each) != 0 || all != api.Span{}) {
			t.Errorf("Carried of %v = %v, %v, error %d", l, each, all, e)
		}
	}
	if min(seen[api.OK], seen[api.ErrArg], seen[api.ErrRange], seen[api.ErrShort], carried[api.OK], carried[api.ErrArg]) < 500 {
		t.Errorf("Left had the errors %v, Carried %v", seen, carried)
	}
}
