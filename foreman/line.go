package foreman

import (
	"iter"
	"slices"
	"strconv"
	"strings"

	"gasworks/api"
)

const (
	blank    = " "
	lineFeed = "\n"
)

// A verb says how a line goes on, and what it does.
type verb struct {
	numbers int                           // how many stand after it
	enters  func(n figures) entry         // the entry of an entry line; nil for all others
	amends  bool                          // after the numbers stands an entry line
	does    func(d *Desk, o order) string // the reply of what it does
}

func verbs() map[string]verb {
	return map[string]verb{
		"arrive":  {numbers: 3, enters: figures.arrive, does: (*Desk).enter},
		"draw":    {numbers: 2, enters: figures.draw, does: (*Desk).enter},
		"charge":  {numbers: 3, enters: figures.charge, does: (*Desk).enter},
		"empty":   {numbers: 2, enters: figures.empty, does: (*Desk).enter},
		"scour":   {numbers: 2, enters: figures.scour, does: (*Desk).enter},
		"out":     {numbers: 2, enters: figures.letOut, does: (*Desk).enter},
		"light":   {numbers: 2, enters: figures.lightUp, does: (*Desk).enter},
		"strike":  {numbers: 1, does: (*Desk).strike},
		"amend":   {numbers: 1, amends: true, does: (*Desk).amend},
		"entries": {does: (*Desk).entries},
		"left":    {does: (*Desk).left},
		"yield":   {numbers: 3, does: (*Desk).yield},
		"gas":     {numbers: 2, does: (*Desk).gas},
		"peak":    {does: (*Desk).peak},
		"soonest": {numbers: 1, does: (*Desk).soonest},
		"plan":    {does: (*Desk).plan},
	}
}

// figures are the numbers of a line, as many as its verb has.
type figures []int

// An order is a line that was read. It has an entry if it is an entry line, or amends.
type order struct {
	verb    verb
	figures figures
	entry   entry
}

// need panics with the error unless something is so. Line recovers it.
func need(so bool, e api.Errno) {
	if !so {
		panic(e)
	}
}

// read returns what a line orders.
func read(text string) order {
	o, rest := begin(slices.Collect(ended(text+blank, blank)))
	if o.verb.amends {
		instead, after := begin(rest)
		need(instead.verb.enters != nil, api.ErrForm)
		o.entry, rest = instead.entry, after
	}
	need(len(rest) == 0, api.ErrForm)
	return o
}

// begin reads a verb and its numbers, and returns the words after them.
func begin(words []string) (o order, rest []string) {
	need(len(words) > 0, api.ErrForm)
	v, is := verbs()[words[0]]
	need(is && len(words) > v.numbers, api.ErrForm)
	o.verb = v
	for _, word := range words[1 : 1+v.numbers] {
		o.figures = append(o.figures, number(word))
	}
	if v.enters != nil {
		o.entry = v.enters(o.figures)
	}
	return o, words[1+v.numbers:]
}

// number reads a number. Each one is written in one way alone: a word that is not written so again is none.
func number(word string) int {
	n, err := strconv.Atoi(word)
	need(err == nil && n >= 0 && strconv.Itoa(n) == word && len(word) <= api.MaxFigure, api.ErrForm)
	return n
}

// ended ranges over the pieces of a text that an end stands after.
func ended(text, end string) iter.Seq[string] {
	return func(yield func(string) bool) {
		for {
			piece, rest, is := strings.Cut(text, end)
			if !is || !yield(piece) {
				return
			}
			text = rest
		}
	}
}

// reply puts the parts of a reply together.
func reply(word string, numbers ...int) string {
	var b strings.Builder
	b.WriteString(word)
	for _, n := range numbers {
		b.WriteString(blank + strconv.Itoa(n))
	}
	return b.String()
}
