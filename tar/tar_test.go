package tar_test

import (
	"slices"
	"testing"

	"gasworks/api"
	"gasworks/tar"
)

func span(lo, hi int) api.Span { return api.Span{Lo: lo, Hi: hi} }

// still returns a still that is worked at most twice, for nothing.
func still(in, takes int, out ...api.Span) api.Still {
	return api.Still{In: in, Takes: takes, Out: out, Most: 2}
}

func sale(good, most, price int) api.Sale {
	return api.Sale{Good: good, Most: most, Price: price}
}

func cart(emptyLo, emptyHi, fullLo, fullHi int) api.Weighing {
	return api.Weighing{Empty: span(emptyLo, emptyHi), Full: span(fullLo, fullHi)}
}

// yards returns that of the chapter's examples.
func yards() api.Yards {
	return api.Yards{
		Stock: []int{20, 0, 1},
		Stills: []api.Still{
			{In: 0, Takes: 6, Out: []api.Span{{}, span(2, 3), span(1, 2)}, Pay: 5, Most: 4},
			{In: 1, Takes: 4, Out: []api.Span{{}, {}, span(3, 3)}, Pay: 1, Most: 2},
		},
		Sales: []api.Sale{sale(2, 5, 9), sale(1, 10, 4), sale(0, 30, 2)},
	}
}

func wantLeft(t *testing.T, name string, y api.Yards, plan []int, left ...api.Span) {
	t.Helper()
	if l, e := tar.Left(y, plan); !slices.Equal(l, left) || e != api.OK {
		t.Errorf("%s: Left of %v, %v = %v, error %d; want %v", name, y, plan, l, e, left)
	}
}

func wantIncome(t *testing.T, name string, y api.Yards, plan []int, income int, sold ...int) {
	t.Helper()
	if n, l, e := tar.Income(y, plan); n != income || !slices.Equal(l, sold) || e != api.OK {
		t.Errorf("%s: Income of %v, %v = %d, %v, error %d; want %d, %v", name, y, plan, n, l, e, income, sold)
	}
}

// wantNot checks that Left and Income have an error, and nothing else.
func wantNot(t *testing.T, name string, y api.Yards, plan []int, e api.Errno) {
	t.Helper()
	if l, e2 := tar.Left(y, plan); len(l) != 0 || e2 != e {
		t.Errorf("%s: Left of %v, %v = %v, error %d; want error %d", name, y, plan, l, e2, e)
	}
	if n, l, e2 := tar.Income(y, plan); n != 0 || len(l) != 0 || e2 != e {
		t.Errorf("%s: Income of %v, %v = %d, %v, error %d; want error %d", name, y, plan, n, l, e2, e)
	}
}

func wantPlan(t *testing.T, name string, y api.Yards, income int, plan ...int) {
	t.Helper()
	if l, n, e := tar.Plan(y); !slices.Equal(l, plan) || n != income || e != api.OK {
		t.Errorf("%s: Plan of %v = %v, %d, error %d; want %v, %d", name, y, l, n, e, plan, income)
	}
}

func wantCarried(t *testing.T, name string, l []api.Weighing, all api.Span, each ...api.Span) {
	t.Helper()
	if s, a, e := tar.Carried(l); !slices.Equal(s, each) || a != all || e != api.OK {
		t.Errorf("%s: Carried of %v = %v, %v, error %d; want %v, %v", name, l, s, a, e, each, all)
	}
}

func wantNotCarried(t *testing.T, name string, l []api.Weighing, e api.Errno) {
	t.Helper()
	if s, a, e2 := tar.Carried(l); len(s) != 0 || a != (api.Span{}) || e2 != e {
		t.Errorf("%s: Carried of %v = %v, %v, error %d; want error %d", name, l, s, a, e2, e)
	}
}

func TestExamples(t *testing.T) {
	wantLeft(t, "example", yards(), []int{3, 1}, span(2, 2), span(2, 5), span(7, 10))
	wantNot(t, "example", yards(), []int{1, 1}, api.ErrShort)
	wantNot(t, "example", yards(), []int{4, 0}, api.ErrShort)
	wantIncome(t, "example", yards(), []int{3, 1}, 41, 5, 2, 2)
	wantIncome(t, "example", yards(), []int{0, 0}, 49, 1, 0, 20)
	wantPlan(t, "example", yards(), 50, 2, 1)
	wantCarried(t, "example", []api.Weighing{cart(10, 12, 30, 31), cart(5, 9, 7, 8)}, span(18, 24), span(18, 21), span(0, 3))
}

// TestNothingIsWorked checks plans in which no still is worked, and yards without stills.
func TestNothingIsWorked(t *testing.T) {
	wantLeft(t, "not at all", yards(), []int{0, 0}, span(20, 20), span(0, 0), span(1, 1))
	idle := yards()
	idle.Stills = nil
	for _, plan := range [][]int{nil, {}} {
		wantLeft(t, "no stills", idle, plan, span(20, 20), span(0, 0), span(1, 1))
		wantIncome(t, "no stills", idle, plan, 49, 1, 0, 20)
	}
	wantPlan(t, "no stills", idle, 49)
	idle.Stills, idle.Sales = []api.Still{}, nil
	wantIncome(t, "no stills, and no sales", idle, nil, 0)
	wantPlan(t, "no stills, and no sales", idle, 0)
	one := api.Yards{Stock: []int{7}, Stills: []api.Still{still(0, 8, span(0, 0))}, Sales: []api.Sale{sale(0, 9, 3)}}
	wantLeft(t, "one good", one, []int{0}, span(7, 7))
	wantNot(t, "one good, of which there is too little", one, []int{1}, api.ErrShort)
	wantPlan(t, "one good, of which there is too little", one, 21, 0)
	never := yards()
	never.Stills[0].Most, never.Stills[1].Most = 0, 0
	wantPlan(t, "stills that cannot be worked", never, 49, 0, 0)
	wantNot(t, "stills that cannot be worked", never, []int{1, 0}, api.ErrRange)
}

// TestJustEnough checks stocks that are just enough for a still, or one too little.
func TestJustEnough(t *testing.T) {
	y := api.Yards{Stock: []int{0, 0}, Stills: []api.Still{still(0, 5, span(0, 0), span(1, 4))}}
	for stock := range 16 {
		y.Stock[0] = stock
		for times := range 3 {
			if stock >= 5*times {
				wantLeft(t, "just enough", y, []int{times}, span(stock-5*times, stock-5*times), span(times, 4*times))
			} else {
				wantNot(t, "one too little", y, []int{times}, api.ErrShort)
			}
		}
	}
}

// TestSurelyThere checks that a still can be worked only if enough comes out of those before it in any case.
func TestSurelyThere(t *testing.T) {
	y := api.Yards{Stock: []int{9, 1, 0}, Stills: []api.Still{still(0, 3, span(0, 0), span(2, 9), span(0, 1)), still(1, 5, span(0, 0), span(0, 0), span(4, 6))}}
	wantNot(t, "surely 3", y, []int{1, 1}, api.ErrShort)
	wantLeft(t, "surely 5", y, []int{2, 1}, span(3, 3), span(0, 14), span(4, 8))
	wantNot(t, "surely 5, not 10", y, []int{2, 2}, api.ErrShort)
	y.Stock[1] = 6
	wantLeft(t, "surely 10", y, []int{2, 2}, span(3, 3), span(0, 14), span(8, 14))
	wantLeft(t, "only what was there", y, []int{0, 1}, span(9, 9), span(1, 1), span(4, 6))
}

// TestStillsOfOneGood checks that stills of the same good take it one after the other.
func TestStillsOfOneGood(t *testing.T) {
	y := api.Yards{Stock: []int{10, 0}, Stills: []api.Still{still(0, 4, span(0, 0), span(1, 2)), still(0, 3, span(0, 0), span(5, 5)), still(0, 1, span(0, 0), span(0, 3))}}
	wantLeft(t, "all of it", y, []int{1, 2, 0}, span(0, 0), span(11, 12))
	wantLeft(t, "all of it", y, []int{2, 0, 2}, span(0, 0), span(2, 10))
	wantLeft(t, "each once", y, []int{1, 1, 1}, span(2, 2), span(6, 10))
	wantNot(t, "one too many", y, []int{1, 2, 1}, api.ErrShort)
	wantNot(t, "the second one has too little", y, []int{2, 1, 0}, api.ErrShort)
	// A good of which nothing is taken does not help.
	y.Stock[1] = 100
	wantNot(t, "one too many", y, []int{1, 2, 1}, api.ErrShort)
}

// TestChains checks goods that go through several stills.
func TestChains(t *testing.T) {
	var y api.Yards
	y.Stock = []int{16, 0, 0, 0, 1, 0}
	y.Stills = []api.Still{
		{In: 0, Takes: 4, Out: []api.Span{{}, span(3, 3), {}, span(0, 2), {}, {}}, Pay: 1, Most: 8},
		{In: 1, Takes: 3, Out: []api.Span{{}, {}, span(2, 4), {}, {}, span(1, 1)}, Pay: 10, Most: 8},
		{In: 2, Takes: 4, Out: []api.Span{{}, {}, {}, span(5, 6), span(0, 7), {}}, Pay: 100, Most: 8},
		{In: 4, Takes: 1, Out: []api.Span{{}, {}, {}, {}, {}, span(8, 9)}, Pay: 1000, Most: 8},
	}
	y.Sales = []api.Sale{sale(5, 99, 7), sale(3, 99, 5)}
	wantLeft(t, "all the way", y, []int{4, 4, 2, 1}, span(0, 0), span(0, 0), span(0, 8), span(10, 20), span(0, 14), span(12, 13))
	wantIncome(t, "all the way", y, []int{4, 4, 2, 1}, 12*7+10*5-4-40-200-1000, 12, 10)
	wantNot(t, "the first one lacks", y, []int{5, 4, 2, 1}, api.ErrShort)
	wantNot(t, "the second one lacks", y, []int{3, 4, 2, 1}, api.ErrShort)
	wantNot(t, "the third one lacks", y, []int{4, 3, 2, 1}, api.ErrShort)
	wantNot(t, "the last one lacks", y, []int{4, 4, 2, 2}, api.ErrShort)
	wantPlan(t, "all but the first one are too dear", y, 0, 0, 0, 0, 0)
	y.Stills[1].Pay, y.Stills[2].Pay = 1, 9
	wantPlan(t, "only the last one is too dear", y, 4*7+10*5-4-4-18, 4, 4, 2, 0)
	y.Stills[3].Pay = 55
	wantPlan(t, "none is too dear", y, 12*7+10*5-4-4-18-55, 4, 4, 2, 1)
}

// TestDearSalesFirst checks that sales sell in the order of their prices, and tell what they sell in their own order.
func TestDearSalesFirst(t *testing.T) {
	y := api.Yards{Stock: []int{10, 4}}
	for _, c := range []struct {
		sales  []api.Sale
		income int
		sold   []int
	}{
		{nil, 0, nil}, {[]api.Sale{}, 0, nil},
		{[]api.Sale{sale(0, 3, 5)}, 15, []int{3}}, {[]api.Sale{sale(0, 10, 5)}, 50, []int{10}}, {[]api.Sale{sale(0, 11, 5)}, 50, []int{10}}, {[]api.Sale{sale(0, 0, 5)}, 0, []int{0}},
		{[]api.Sale{sale(0, 7, 1), sale(0, 7, 2), sale(0, 7, 3)}, 27, []int{0, 3, 7}}, {[]api.Sale{sale(0, 7, 3), sale(0, 7, 2), sale(0, 7, 1)}, 27, []int{7, 3, 0}}, {[]api.Sale{sale(0, 7, 2), sale(0, 2, 1), sale(0, 1, 3)}, 19, []int{7, 2, 1}},
		{[]api.Sale{sale(1, 3, 1), sale(0, 8, 9), sale(1, 3, 2), sale(0, 8, 1)}, 81, []int{1, 8, 3, 2}}, {[]api.Sale{sale(0, 6, 4), sale(1, 6, 4), sale(0, 6, 4), sale(1, 6, 4)}, 56, []int{6, 4, 4, 0}},
		{[]api.Sale{sale(0, 6, 0), sale(0, 6, 0)}, 0, []int{6, 4}}, {[]api.Sale{sale(0, 6, 0), sale(0, 6, 1)}, 6, []int{4, 6}},
		{[]api.Sale{sale(0, 3, 5), sale(0, 3, 5), sale(0, 3, 6), sale(0, 3, 5), sale(0, 3, 5), sale(0, 3, 6)}, 56, []int{3, 1, 3, 0, 0, 3}},
	} {
		y.Sales = c.sales
		wantIncome(t, "no stills", y, nil, c.income, c.sold...)
		wantPlan(t, "no stills", y, c.income)
	}
}

// TestOnlyWhatIsSure checks that no more is sold than is left in any case.
func TestOnlyWhatIsSure(t *testing.T) {
	y := api.Yards{Stock: []int{6, 1}, Stills: []api.Still{{Takes: 2, Out: []api.Span{{}, span(3, 8)}, Pay: 7, Most: 3}}, Sales: []api.Sale{sale(1, 99, 5), sale(0, 99, 3)}}
	wantIncome(t, "nothing is worked", y, []int{0}, 23, 1, 6)
	wantIncome(t, "once", y, []int{1}, 25, 4, 4)
	wantIncome(t, "twice", y, []int{2}, 27, 7, 2)
	wantIncome(t, "as often as can be", y, []int{3}, 29, 10, 0)
	wantPlan(t, "the more the better", y, 29, 3)
	y.Stills[0].Pay = 10
	wantIncome(t, "what is paid is too much", y, []int{3}, 20, 10, 0)
	wantPlan(t, "what is paid is too much", y, 23, 0)
	y.Sales = y.Sales[:1]
	wantIncome(t, "what was taken could not be sold", y, []int{3}, 20, 10)
	wantPlan(t, "what was taken could not be sold", y, 20, 3)
	y.Stills[0].Pay = 99
	wantIncome(t, "more is paid than is sold", y, []int{1}, -79, 4)
}

// TestFirstOfEqualPlans checks that of several with the same sure income the first one in lexicographic order is told.
func TestFirstOfEqualPlans(t *testing.T) {
	y := api.Yards{
		Stock:  []int{6, 0},
		Stills: []api.Still{still(0, 1, span(0, 0), span(1, 1)), still(0, 1, span(0, 0), span(1, 2)), still(0, 1, span(0, 0), span(1, 1))},
		Sales:  []api.Sale{sale(1, 3, 5)},
	}
	wantPlan(t, "any three", y, 15, 0, 1, 2)
	y.Sales[0].Most = 4
	wantPlan(t, "any four", y, 20, 0, 2, 2)
	y.Sales[0].Most = 5
	wantPlan(t, "any five", y, 25, 1, 2, 2)
	y.Stills[1].Pay = 1
	wantPlan(t, "one is not free", y, 24, 2, 1, 2)
	y.Sales[0].Most = 6
	wantPlan(t, "all of them", y, 28, 2, 2, 2)
	y.Sales = append(y.Sales, sale(0, 6, 5))
	wantPlan(t, "none of them is needed", y, 30, 0, 0, 0)
	y.Sales = nil
	wantPlan(t, "nothing is sold", y, 0, 0, 0, 0)
	y.Stills[1].Pay = 0
	wantPlan(t, "nothing is sold nor paid", y, 0, 0, 0, 0)
}

// TestSomeOfEach checks a plan in which a still leaves for the next one what it could be worked with more often.
func TestSomeOfEach(t *testing.T) {
	y := api.Yards{
		Stock: []int{8, 0, 0},
		Stills: []api.Still{
			{In: 0, Takes: 2, Out: []api.Span{{}, span(3, 4), {}}, Most: 8},
			{In: 0, Takes: 3, Out: []api.Span{{}, {}, span(2, 2)}, Most: 8},
			{In: 1, Takes: 2, Out: []api.Span{{}, {}, span(1, 1)}, Pay: 1, Most: 3},
		},
		Sales: []api.Sale{sale(2, 6, 20), sale(1, 2, 3), sale(0, 1, 10)},
	}
	wantPlan(t, "some of both", y, 107, 2, 1, 3)
	wantIncome(t, "as often as can be", y, []int{4, 0, 3}, 63, 3, 2, 0)
	wantIncome(t, "once, and as often as can be", y, []int{1, 2, 1}, 102, 5, 1, 0)
	y.Stills[2].Most = 6
	wantPlan(t, "only the first one", y, 114, 4, 0, 6)
}

// TestGreatestYards checks yards of which all numbers are at their limits.
func TestGreatestYards(t *testing.T) {
	const tons, price = api.MaxTons, api.MaxPrice
	y := api.Yards{Stock: slices.Repeat([]int{tons}, 6), Sales: slices.Repeat([]api.Sale{sale(5, tons, price)}, 6)}
	for in := range 4 {
		out := make([]api.Span, 6)
		for i := in + 1; i < 6; i++ {
			out[i] = span(tons, tons)
		}
		y.Stills = append(y.Stills, api.Still{In: in, Takes: tons, Out: out, Pay: price, Most: 8})
	}
	wantLeft(t, "the greatest", y, []int{1, 2, 4, 8}, span(0, 0), span(0, 0), span(0, 0), span(0, 0), span(16*tons, 16*tons), span(16*tons, 16*tons))
	wantIncome(t, "the greatest", y, []int{1, 2, 4, 8}, (6*tons-15)*price, slices.Repeat([]int{tons}, 6)...)
	wantPlan(t, "the greatest", y, (6*tons-5)*price, 0, 1, 1, 3)
	y.Sales[0].Good = 4
	wantPlan(t, "the greatest, one of another good", y, (6*tons-4)*price, 0, 1, 1, 2)
	for i := range y.Stills {
		for j := range y.Stills[i].Out {
			y.Stills[i].Out[j].Lo = 0
		}
	}
	wantLeft(t, "of no use", y, []int{1, 1, 1, 1}, span(0, 0), span(0, tons), span(0, 2*tons), span(0, 3*tons), span(tons, 5*tons), span(tons, 5*tons))
	wantNot(t, "nothing is sure", y, []int{1, 2, 0, 0}, api.ErrShort)
	wantPlan(t, "of no use", y, 2*tons*price, 0, 0, 0, 0)
}

func TestCarts(t *testing.T) {
	wantCarried(t, "none", nil, span(0, 0))
	wantCarried(t, "none", []api.Weighing{}, span(0, 0))
	wantCarried(t, "known", []api.Weighing{cart(10, 10, 30, 30)}, span(20, 20), span(20, 20))
	wantCarried(t, "nothing", []api.Weighing{cart(10, 10, 10, 10)}, span(0, 0), span(0, 0))
	wantCarried(t, "nothing weighs nothing", []api.Weighing{{}}, span(0, 0), span(0, 0))
	wantCarried(t, "more or less", []api.Weighing{cart(10, 13, 30, 32)}, span(17, 22), span(17, 22))
	wantCarried(t, "surely one", []api.Weighing{cart(10, 13, 14, 15)}, span(1, 5), span(1, 5))
	wantCarried(t, "surely none", []api.Weighing{cart(10, 13, 13, 15)}, span(0, 5), span(0, 5))
	wantCarried(t, "never below 0", []api.Weighing{cart(10, 13, 12, 15)}, span(0, 5), span(0, 5))
	wantCarried(t, "the full one seems lighter", []api.Weighing{cart(10, 20, 3, 11)}, span(0, 1), span(0, 1))
	wantCarried(t, "just not lighter", []api.Weighing{cart(10, 20, 3, 10)}, span(0, 0), span(0, 0))
	wantCarried(t, "each by itself", []api.Weighing{cart(10, 20, 3, 15), cart(5, 5, 9, 9), cart(10, 20, 3, 15)}, span(4, 14), span(0, 5), span(4, 4), span(0, 5))
	all := cart(0, 0, 100_000, 100_000)
	wantCarried(t, "the most", slices.Repeat([]api.Weighing{all}, 32), span(3_200_000, 3_200_000), slices.Repeat([]api.Span{span(100_000, 100_000)}, 32)...)
	wantCarried(t, "anything", []api.Weighing{cart(0, 100_000, 0, 100_000)}, span(0, 100_000), span(0, 100_000))
	wantCarried(t, "as heavy as can be", []api.Weighing{cart(100_000, 100_000, 0, 100_000)}, span(0, 0), span(0, 0))
}
