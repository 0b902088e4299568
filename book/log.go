package book

import (
	"slices"

	"gasworks/api"
)

// modulus is what the check is told by: a prime above MaxSights, so that no place in a log hides a change of a Height.
const modulus = 61

// writeSights writes a holder's log, its bytes as a string.
func writeSights(l []api.Sight) (string, api.Errno) {
	if e := faultOfSights(l); e != api.OK {
		return "", e
	}
	var p packer
	p.put(len(l))
	before := beforeFirst()
	for _, x := range l {
		p.put(x.Hour-before.Hour-1, signed(x.Height-before.Height))
		before = x
	}
	p.put(check(l))
	return p.packed(), api.OK
}

// beforeFirst returns a sight from which the numbers of the first one are reckoned as those of all others.
func beforeFirst() api.Sight { return api.Sight{Hour: -1} }

// signed returns the number that is written for one that can be below 0, and unsigned the one for which it is written.
func signed(n int) int {
	if n >= 0 {
		return 2 * n
	}
	return -2*n - 1
}

func unsigned(n int) int {
	if n%2 == 0 {
		return n / 2
	}
	return -(n + 1) / 2
}

func check(l []api.Sight) int {
	sum := 0
	for i, x := range l {
		sum += x.Hour + x.Height*(i+1)
	}
	return sum % modulus
}

// sights reads a holder's log up to its check.
func sights(text string) []api.Sight {
	n := numbers(text)
	demand(len(n) > 0 && len(n) > 2*n[0])
	var l []api.Sight
	x := beforeFirst()
	for pair := range slices.Chunk(n[1:1+2*n[0]], 2) {
		x.Hour += pair[0] + 1
		x.Height += unsigned(pair[1])
		l = append(l, x)
	}
	return l
}
