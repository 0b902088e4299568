package book

import "gasworks/api"

// fault returns the error of a list: of one that is too long, one with an element that is not valid, or one that is not in order.
func fault[T any](l []T, most int, valid func(x T) bool, ordered func(before, x T) bool) api.Errno {
	if len(l) > most {
		return api.ErrLong
	}
	for _, x := range l {
		if !valid(x) {
			return api.ErrArg
		}
	}
	for i := 1; i < len(l); i++ {
		if !ordered(l[i-1], l[i]) {
			return api.ErrOrder
		}
	}
	return api.OK
}

func faultOfLoads(l []api.Load) api.Errno {
	return fault(l, api.MaxBook, func(x api.Load) bool {
		return isFrom(x.Hour, 0, api.MaxHour) && isFrom(x.Retort, 0, api.MaxNumber) && isFrom(x.Coal, 0, api.MaxNumber) && isFrom(x.Weight, 1, api.MaxTons)
	}, func(before, x api.Load) bool {
		return before.Hour < x.Hour || before.Hour == x.Hour && before.Retort < x.Retort
	})
}

func faultOfSights(l []api.Sight) api.Errno {
	return fault(l, api.MaxSights, func(x api.Sight) bool {
		return isFrom(x.Hour, 0, api.MaxHour) && isFrom(x.Height, 0, api.MaxHeight)
	}, func(before, x api.Sight) bool {
		return before.Hour < x.Hour
	})
}

func faultOfLeaves(l []api.Leaf) api.Errno {
	return fault(l, api.MaxLeaves, validLeaf, func(before, x api.Leaf) bool {
		return before.House < x.House
	})
}

func validLeaf(x api.Leaf) bool {
	if !isFrom(x.House, 0, api.MaxHouse) || len(x.Readings) > api.MaxReadings {
		return false
	}
	for _, n := range x.Readings {
		if !isFrom(n, 0, api.MaxReading) {
			return false
		}
	}
	return true
}

func isFrom(n, least, most int) bool {
	return least <= n && n <= most
}
