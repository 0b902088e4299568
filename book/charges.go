package book

import (
	"strconv"
	"strings"

	"gasworks/api"
)

// total begins the last line of a charge book.
const total = "total "

// textOfLoads writes a charge book.
func textOfLoads(l []api.Load) string {
	var b strings.Builder
	sum := 0
	for _, x := range l {
		b.WriteString(lineOf(x.Hour, x.Retort, x.Coal, x.Weight))
		sum += x.Weight
	}
	b.WriteString(total + lineOf(len(l), sum))
	return b.String()
}

// lineOf writes numbers as a line.
func lineOf(numbers ...int) string {
	var words []string
	for _, n := range numbers {
		words = append(words, strconv.Itoa(n))
	}
	return strings.Join(words, " ") + "\n"
}

// loads reads a charge book up to its last line.
func loads(text string) []api.Load {
	var l []api.Load
	for line := range lines(text) {
		if strings.HasPrefix(line, total) {
			break
		}
		demand(len(l) < api.MaxBook)
		l = append(l, load(line))
	}
	return l
}

func load(line string) api.Load {
	// If there are more words than four, the last one contains a blank, and is no number.
	w := strings.SplitN(line, " ", 4)
	demand(len(w) == 4)
	return api.Load{Hour: number(w[0]), Retort: number(w[1]), Coal: number(w[2]), Weight: number(w[3])}
}
