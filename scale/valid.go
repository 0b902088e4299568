package scale

import "gasworks/api"

// fault returns the error of an act, or of years.
func fault(a api.Act, l []api.Year) api.Errno {
	switch {
	case !validAct(a):
		return api.ErrArg
	case len(l) > api.MaxYears:
		return api.ErrLong
	case !validYears(l):
		return api.ErrRange
	}
	return api.OK
}

func validAct(a api.Act) bool {
	return allFrom(0, api.MaxScale, a.Price) && allFrom(1, api.MaxScale, a.Step) && allFrom(0, api.MaxDividend, a.Dividend, a.Gain) && allFrom(0, api.MaxPay, a.Most) && allFrom(0, api.MaxBack, a.Back)
}

func validYears(l []api.Year) bool {
	for _, y := range l {
		if !allFrom(0, api.MaxScale, y.Price) || !allFrom(0, api.MaxPay, y.Capital) || !allFrom(-api.MaxPay, api.MaxPay, y.Profit) {
			return false
		}
	}
	return true
}
