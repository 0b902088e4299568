package coal

import (
	"cmp"
	"slices"

	"gasworks/api"
)

// countable is what can be added up.
type countable interface{ ~int | ~int64 }

// ends is a least and a greatest number.
type ends[N countable] struct{ least, greatest N }

func (e ends[N]) plus(f ends[N]) ends[N] {
	return ends[N]{least: e.least + f.least, greatest: e.greatest + f.greatest}
}

// goods returns what coals give, by the numbers of api.
func goods() [api.OfCoke + 1]func(api.Coal) api.Span {
	return [...]func(api.Coal) api.Span{
		api.OfGas:     func(c api.Coal) api.Span { return c.Gas },
		api.OfTar:     func(c api.Coal) api.Span { return c.Tar },
		api.OfSulphur: func(c api.Coal) api.Span { return c.Sulphur },
		api.OfCoke:    func(c api.Coal) api.Span { return c.Coke },
	}
}

// A grade is what a hundredweight of a coal gives at one end of its span.
type grade struct{ coal, gives int }

// grades returns the coals at their least, from the poorest one on, and at their greatest, from the richest one on.
func grades(coals []api.Coal, of func(api.Coal) api.Span) (poorest, richest []grade) {
	for coal, c := range coals {
		s := of(c)
		poorest = append(poorest, grade{coal: coal, gives: s.Lo})
		richest = append(richest, grade{coal: coal, gives: s.Hi})
	}
	slices.SortStableFunc(poorest, func(a, b grade) int { return cmp.Compare(a.gives, b.gives) })
	slices.SortStableFunc(richest, func(a, b grade) int { return cmp.Compare(b.gives, a.gives) })
	return poorest, richest
}

// fill returns what the portion gives if it has as much as it can of the first grade, then of the next one, and so on.
func (p portion) fill(order []grade) int {
	gives, rest := 0, p.tons
	for _, g := range order {
		tons := min(rest, p.layer.contents[g.coal])
		gives += tons * g.gives
		rest -= tons
	}
	return gives
}

// share returns how much of a coal the portion can have: at least what the other coals of the layer cannot make up.
func (p portion) share(coal int) ends[int] {
	contents := p.layer.contents[coal]
	others := p.layer.all.to - p.layer.all.from - contents
	return ends[int]{least: max(0, p.tons-others), greatest: min(p.tons, contents)}
}

// addUp tells whether the numbers, none of them less than 0, come to all. It subtracts, as their sum could be too great for an int.
func addUp(numbers []int, all int) bool {
	for _, n := range numbers {
		if n < 0 || n > all {
			return false
		}
		all -= n
	}
	return all == 0
}

// fit tells whether the portions can have just so many tons of each coal, of as many tons together as the portions have.
// This is a flow from the coals to the portions, and no flow is stopped by more than its narrowest cut: it is enough that no set of coals is more than what the portions can have of that set.
func fit(portions []portion, tons []int) bool {
	var from func(coal, set int) bool
	from = func(coal, set int) bool {
		if coal == len(tons) {
			return asked(tons, set) <= room(portions, set)
		}
		return from(coal+1, set) && from(coal+1, set|1<<coal)
	}
	return from(0, 0)
}

// asked returns the tons of a set of coals, given by bits.
func asked(tons []int, set int) int {
	all := 0
	for coal, t := range tons {
		if set>>coal&1 == 1 {
			all += t
		}
	}
	return all
}

// room returns how much of a set of coals, given by bits, the portions can have.
func room(portions []portion, set int) int {
	all := 0
	for _, p := range portions {
		all += min(p.tons, asked(p.layer.contents[:], set))
	}
	return all
}
