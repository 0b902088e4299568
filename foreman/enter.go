package foreman

import (
	"slices"

	"gasworks/api"
	"gasworks/coal"
	"gasworks/retort"
)

func (d *Desk) enter(o order) string {
	number := d.last + 1
	d.keep(append(slices.Clone(d.slips), slip{number: number, entry: o.entry}))
	d.last = number
	return reply("entry", number)
}

func (d *Desk) strike(o order) string {
	i := d.find(o.figures[0])
	d.keep(slices.Delete(slices.Clone(d.slips), i, i+1))
	return reply("struck", o.figures...)
}

func (d *Desk) amend(o order) string {
	i := d.find(o.figures[0])
	slips := slices.Clone(d.slips)
	slips[i].entry = o.entry
	d.keep(slips)
	return reply("amended", o.figures...)
}

// find returns the index of the slip with a number.
func (d *Desk) find(number int) int {
	i := slices.IndexFunc(d.slips, func(s slip) bool { return s.number == number })
	need(i >= 0, api.ErrNone)
	return i
}

// keep takes these slips instead of those of the desk, if their books are right.
func (d *Desk) keep(slips []slip) {
	e := fault(d.works, books(slips))
	need(e == api.OK, e)
	d.slips = slips
}

// fault returns the error of books.
func fault(w api.Works, b api.Books) api.Errno {
	if _, e := coal.Left(yard(w, b)); e != api.OK {
		return e
	}
	if _, _, e := retort.Play(w.House, b.Stokes); e != api.OK {
		return e
	}
	if short(b) {
		return api.ErrShort
	}
	return api.OK
}

// yard returns the coal yard of books.
func yard(w api.Works, b api.Books) api.Yard { return api.Yard{Coals: w.Coals, Moves: b.Moves} }

// short tells whether more was charged than drawn by the end of some hour. That can begin only in the hour of a charge.
func short(b api.Books) bool {
	for _, k := range b.Stokes {
		if charged(b.Stokes, k.Hour) > drawn(b.Moves, k.Hour) {
			return true
		}
	}
	return false
}

// charged returns the tons that were charged in an hour, or before it.
func charged(l []api.Stoke, hour int) int {
	all := 0
	for _, k := range l {
		if k.Hour <= hour && k.Kind == api.Charge {
			all += k.Tons
		}
	}
	return all
}

// drawn returns the tons that were drawn in an hour, or before it.
func drawn(l []api.Move, hour int) int {
	all := 0
	for _, m := range l {
		if m.Hour <= hour && m.Coal == api.Drawn {
			all += m.Tons
		}
	}
	return all
}
