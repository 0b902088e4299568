package book

import (
	"strconv"
	"strings"

	"gasworks/api"
)

// same stands for a reading that is the one before it.
const same = "."

// textOfLeaves writes a meter book.
func textOfLeaves(l []api.Leaf) string {
	var b strings.Builder
	for _, x := range l {
		b.WriteString(strconv.Itoa(x.House))
		var before figures
		for _, n := range x.Readings {
			f := figuresOf(n)
			b.WriteString(" " + f.after(before))
			before = f
		}
		b.WriteString("\n")
	}
	return b.String()
}

// leaves reads a meter book.
func leaves(text string) []api.Leaf {
	var l []api.Leaf
	for line := range lines(text) {
		demand(len(l) < api.MaxLeaves)
		l = append(l, leaf(line))
	}
	return l
}

func leaf(line string) api.Leaf {
	// If there are more words, the last one contains a blank, which is no figure.
	w := strings.SplitN(line, " ", 1+api.MaxReadings)
	x := api.Leaf{House: number(w[0])}
	var f figures
	for _, word := range w[1:] {
		f = f.then(word)
		x.Readings = append(x.Readings, f.reading())
	}
	return x
}

// figures are those of a reading, as they are written. The zero value, from which a first reading differs in each figure, stands before it.
type figures [5]byte

func figuresOf(reading int) figures {
	var f figures
	for i := len(f) - 1; i >= 0; i-- {
		f[i] = '0' + byte(reading%10)
		reading /= 10
	}
	return f
}

// after returns how figures are written after those of the reading before them.
func (f figures) after(before figures) string {
	if f == before {
		return same
	}
	first := 0
	for f[first] == before[first] {
		first++
	}
	return string(f[first:])
}

// then returns the figures that a word stands for after these.
func (f figures) then(word string) figures {
	if word == same {
		return f
	}
	demand(word != "" && len(word) <= len(f))
	copy(f[len(f)-len(word):], word)
	return f
}

func (f figures) reading() int { return number(string(f[:])) }
