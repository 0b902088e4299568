package foreman

import (
	"slices"

	"gasworks/api"
	"gasworks/coal"
	"gasworks/retort"
	"gasworks/tar"
)

// validWorks asks the layers below: without moves, stokes and stock they have no error but that of what is not valid.
func validWorks(w api.Works) bool {
	if _, e := coal.Left(api.Yard{Coals: w.Coals}); e != api.OK {
		return false
	}
	if _, _, e := retort.Play(w.House, nil); e != api.OK {
		return false
	}
	if w.Goods < 2 || w.Goods > api.MaxGoods {
		return false
	}
	_, _, e := tar.Plan(yards(w, make([]int, w.Goods)))
	return e == api.OK
}

// yards returns the goods of the works, with a stock of them.
func yards(w api.Works, stock []int) api.Yards {
	return api.Yards{Stock: stock, Stills: w.Stills, Sales: w.Sales}
}

// copyOf returns the works in memory of their own.
func copyOf(w api.Works) api.Works {
	w.Coals = slices.Clone(w.Coals)
	w.House.Curve = slices.Clone(w.House.Curve)
	w.Sales = slices.Clone(w.Sales)
	w.Stills = slices.Clone(w.Stills)
	for i, s := range w.Stills {
		w.Stills[i].Out = slices.Clone(s.Out)
	}
	return w
}
