package tar

import "gasworks/api"

func validYards(y api.Yards) bool {
	return validStock(y.Stock) && validStills(y.Stills, len(y.Stock)) && validSales(y.Sales, len(y.Stock))
}

func validStock(l []int) bool {
	if !isFrom(len(l), 1, api.MaxGoods) {
		return false
	}
	for _, n := range l {
		if !isFrom(n, 0, api.MaxTons) {
			return false
		}
	}
	return true
}

func validStills(l []api.Still, goods int) bool {
	if len(l) > api.MaxStills {
		return false
	}
	for i, s := range l {
		if i > 0 && s.In < l[i-1].In {
			return false
		}
		if !validStill(s, goods) {
			return false
		}
	}
	return true
}

func validStill(s api.Still, goods int) bool {
	if !isFrom(s.In, 0, goods-1) || !isFrom(s.Takes, 1, api.MaxTons) || len(s.Out) != goods {
		return false
	}
	for i, out := range s.Out {
		if i <= s.In && out != (api.Span{}) {
			return false
		}
		if !validWithin(out, api.MaxTons) {
			return false
		}
	}
	return isFrom(s.Pay, 0, api.MaxPrice) && isFrom(s.Most, 0, api.MaxBatches)
}

func validSales(l []api.Sale, goods int) bool {
	if len(l) > api.MaxSales {
		return false
	}
	for _, s := range l {
		if !isFrom(s.Good, 0, goods-1) || !isFrom(s.Most, 0, api.MaxTons) || !isFrom(s.Price, 0, api.MaxPrice) {
			return false
		}
	}
	return true
}

// validPlan tells whether a plan has a number for each still, and none that is beyond its Most.
func validPlan(l []api.Still, plan []int) bool {
	if len(plan) != len(l) {
		return false
	}
	for i, times := range plan {
		if !isFrom(times, 0, l[i].Most) {
			return false
		}
	}
	return true
}

func validWeighings(l []api.Weighing) bool {
	for _, w := range l {
		if !validWithin(w.Empty, api.MaxWeight) || !validWithin(w.Full, api.MaxWeight) || w.Full.Hi < w.Empty.Lo {
			return false
		}
	}
	return true
}

// validWithin tells whether a span is valid, and within 0 to a greatest number.
func validWithin(s api.Span, most int) bool {
	return isFrom(s.Lo, 0, s.Hi) && s.Hi <= most
}

func isFrom(n, least, most int) bool {
	return least <= n && n <= most
}
