package foreman

import (
	"gasworks/api"
	"gasworks/coal"
	"gasworks/retort"
	"gasworks/tar"
)

func (d *Desk) entries(order) string {
	var numbers []int
	for _, s := range d.slips {
		numbers = append(numbers, s.number)
	}
	return reply("entries", numbers...)
}

func (d *Desk) left(order) string {
	var numbers []int
	for _, p := range sure(coal.Left(yard(d.works, books(d.slips)))) {
		numbers = append(numbers, p.Layer, p.Tons)
	}
	return reply("left", numbers...)
}

func (d *Desk) yield(o order) string {
	s := sure(coal.Yield(yard(d.works, books(d.slips)), o.figures[0], o.figures[1], o.figures[2]))
	return reply("yield", s.Lo, s.Hi)
}

func (d *Desk) gas(o order) string {
	s := sure(retort.Make(d.works.House, books(d.slips).Stokes, o.figures[0], o.figures[1]))
	return reply("gas", s.Lo, s.Hi)
}

func (d *Desk) peak(order) string {
	hour, s, e := retort.Peak(d.works.House, books(d.slips).Stokes)
	need(e == api.OK, e)
	return reply("peak", hour, s.Lo, s.Hi)
}

func (d *Desk) soonest(o order) string {
	return reply("soonest", sure(retort.Soonest(d.works.House, books(d.slips).Stokes, o.figures[0])))
}

func (d *Desk) plan(order) string {
	plan, income, e := tar.Plan(yards(d.works, d.stock()))
	need(e == api.OK, e)
	return reply("plan", append(plan, income)...)
}

// stock returns the goods that the draws surely gave: tar and coke, and nothing of the others.
func (d *Desk) stock() []int {
	stock := make([]int, d.works.Goods)
	y := yard(d.works, books(d.slips))
	if n := draws(y.Moves); n > 0 {
		stock[0] = sure(coal.Yield(y, 0, n-1, api.OfTar)).Lo
		stock[1] = sure(coal.Yield(y, 0, n-1, api.OfCoke)).Lo
	}
	return stock
}

func draws(l []api.Move) int {
	n := 0
	for _, m := range l {
		if m.Coal == api.Drawn {
			n++
		}
	}
	return n
}

// sure returns a result that has no error.
func sure[T any](result T, e api.Errno) T {
	need(e == api.OK, e)
	return result
}
