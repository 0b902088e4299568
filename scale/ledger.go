package scale

import (
	"iter"

	"gasworks/api"
)

// A ledger is kept from year to year.
type ledger struct {
	due        func(y api.Year) (rate, due int) // told by the act
	most, back int                              // of the act
	balance    int                              // below 0 a debt
	arrears    queue
}

// enter returns what the next year comes to.
func (g *ledger) enter(y api.Year) api.Payment {
	rate, due := g.due(y)
	g.balance += y.Profit
	paid := kept(due+g.arrears.sum(), 0, g.balance)
	ofDue := min(due, paid)
	g.arrears = g.arrears.paid(paid-ofDue).after(due-ofDue, g.back)
	g.balance -= paid
	reserve := min(g.balance, g.most)
	rebate := g.balance - reserve
	g.balance = reserve
	return api.Payment{Rate: rate, Due: due, Paid: paid, Arrears: g.arrears.sum(), Reserve: reserve, Rebate: rebate}
}

// payments reckons years: it yields the index of each one with what it comes to.
func payments(a api.Act, l []api.Year) iter.Seq2[int, api.Payment] {
	return func(yield func(int, api.Payment) bool) {
		g := ledger{due: law(a).due, most: a.Most, back: a.Back}
		for i, y := range l {
			if !yield(i, g.enter(y)) {
				return
			}
		}
	}
}
