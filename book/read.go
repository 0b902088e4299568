package book

import (
	"iter"

	"gasworks/api"
)

// greatest is the greatest number that is read: a book that can be written has none that is greater, but for the sum of all Weights, which is not read.
const greatest = max(api.MaxHour, api.MaxTons)

// read returns what a book contains. What parses it looks only at what is needed to write it again: since each book is written in one way alone, all else is right if it is written again as it was.
func read[T any](text string, parse func(text string) []T, write func(l []T) (string, api.Errno)) (l []T, e api.Errno) {
	defer func() {
		if recover() != nil {
			l, e = nil, api.ErrForm
		}
	}()
	l = parse(text)
	again, e := write(l)
	demand(e == api.OK && again == text)
	return l, api.OK
}

// demand panics unless something is so that the form of a book demands; read recovers it.
func demand(so bool) {
	if !so {
		panic(api.ErrForm)
	}
}

// lines yields the lines of a text without their line feeds, and nothing of a last line that has none.
func lines(text string) iter.Seq[string] {
	return func(yield func(string) bool) {
		first := 0
		for i, r := range text {
			if r != '\n' {
				continue
			}
			if !yield(text[first:i]) {
				return
			}
			first = i + 1
		}
	}
}

// number reads a number of figures, also one with zeros before it.
func number(text string) int {
	demand(text != "")
	n := 0
	for _, r := range text {
		demand('0' <= r && r <= '9')
		n = 10*n + int(r-'0')
		demand(n <= greatest)
	}
	return n
}
