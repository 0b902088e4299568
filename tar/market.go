package tar

import (
	"cmp"
	"slices"

	"gasworks/api"
)

// A market is sales, and the order in which they sell.
type market struct {
	sales []api.Sale
	order []int
}

func newMarket(sales []api.Sale) market {
	m := market{sales: sales}
	for i := range sales {
		m.order = append(m.order, i)
	}
	slices.SortStableFunc(m.order, m.compare)
	return m
}

// compare orders sales by their prices, the greatest first.
func (m market) compare(a, b int) int {
	return cmp.Compare(m.sales[b].Price, m.sales[a].Price)
}

// sell returns how much each sale sells of what is surely left, and what that brings in.
func (m market) sell(left goods) (sold [api.MaxSales]int, income int) {
	for _, i := range m.order {
		s := m.sales[i]
		sold[i] = min(left[s.Good].Lo, s.Most)
		left[s.Good].Lo -= sold[i]
		income += sold[i] * s.Price
	}
	return sold, income
}
