package book

import (
	"bytes"
	"iter"
	"math/bits"

	"gasworks/api"
)

// more is what is added to each half byte of a number but the last one.
const more = 8

// halvesOf yields the half bytes that write a number.
func halvesOf(n int) iter.Seq[byte] {
	return func(yield func(byte) bool) {
		digits := max(1, (bits.Len(uint(n))+2)/3)
		for at := digits - 1; at > 0; at-- {
			if !yield(byte(n>>(3*at))%8 + more) {
				return
			}
		}
		yield(byte(n) % 8)
	}
}

// halves yields the half bytes of bytes, the upper one of each byte first.
func halves(text string) iter.Seq[byte] {
	return func(yield func(byte) bool) {
		for i := range len(text) {
			if !yield(text[i]>>4) || !yield(text[i]%16) {
				return
			}
		}
	}
}

// A packer puts half bytes into bytes, two in each. An upper half waits there until the lower one comes.
type packer struct {
	bytes.Buffer
	upper byte
	waits bool
}

func (p *packer) putHalf(half byte) {
	if p.waits {
		p.WriteByte(p.upper<<4 + half)
	} else {
		p.upper = half
	}
	p.waits = !p.waits
}

// put writes numbers by their half bytes.
func (p *packer) put(numbers ...int) {
	for _, n := range numbers {
		for half := range halvesOf(n) {
			p.putHalf(half)
		}
	}
}

// packed returns all bytes, the last one filled up.
func (p *packer) packed() string {
	if p.waits {
		p.putHalf(0)
	}
	return p.String()
}

// numbers reads the numbers of half bytes, also with zeros before them, but no more of them than a log can have.
func numbers(text string) []int {
	var l []int
	n := 0
	for half := range halves(text) {
		n = 8*n + int(half%8)
		demand(n <= greatest)
		if half >= more {
			continue
		}
		l = append(l, n)
		n = 0
		if len(l) == 1+2*api.MaxSights {
			break
		}
	}
	return l
}
