package book_test

import (
	"bytes"
	"math"
	"slices"
	"strings"
	"testing"

	"gasworks/api"
	"gasworks/book"
)

// books are three of them, and what they are written as.
type books struct {
	loads  []api.Load
	sights []api.Sight
	leaves []api.Leaf

	charges, meters string
	log             []byte
}

// written returns the books of some lists.
func written(t *testing.T, loads []api.Load, sights []api.Sight, leaves []api.Leaf) books {
	t.Helper()
	charges, e1 := book.WriteCharges(loads)
	log, e2 := book.WriteLog(sights)
	meters, e3 := book.WriteMeters(leaves)
	if e1 != api.OK || e2 != api.OK || e3 != api.OK {
		t.Fatalf("%v, %v, %v are not written: errors %d, %d, %d", loads, sights, leaves, e1, e2, e3)
	}
	return books{loads: loads, sights: sights, leaves: leaves, charges: charges, log: log, meters: meters}
}

func anyBooks(t *testing.T, d *dice) books {
	t.Helper()
	return written(t, anyLoads(d), anySights(d), anyLeaves(d))
}

// TestWrittenAgain checks that what was written is read, and that what was read is written again, byte for byte.
func TestWrittenAgain(t *testing.T) {
	d := newDice(5)
	for range 2000 {
		b := anyBooks(t, d)
		loads, e1 := book.ReadCharges(b.charges)
		sights, e2 := book.ReadLog(b.log)
		leaves, e3 := book.ReadMeters(b.meters)
		if e1 != api.OK || e2 != api.OK || e3 != api.OK || !slices.Equal(loads, b.loads) || !slices.Equal(sights, b.sights) || !sameLeaves(leaves, b.leaves) {
			t.Fatalf("%v are read %v, %v, %v, errors %d, %d, %d", b, loads, sights, leaves, e1, e2, e3)
		}
		again := written(t, loads, sights, leaves)
		if again.charges != b.charges || !bytes.Equal(again.log, b.log) || again.meters != b.meters {
			t.Errorf("%v are written again %v", b, again)
		}
	}
}

// TestOtherBooks checks that a book in which one number was changed is not written as it was.
func TestOtherBooks(t *testing.T) {
	d := newDice(6)
	changed := [3]int{}
	for range 3000 {
		b := anyBooks(t, d)
		if len(b.loads) > 0 {
			l := slices.Clone(b.loads)
			x := &l[d.roll(len(l))]
			*[]*int{&x.Hour, &x.Retort, &x.Coal, &x.Weight}[d.roll(4)] += 1 + d.roll(10)
			if text, e := book.WriteCharges(l); e == api.OK {
				changed[0]++
				if text == b.charges {
					t.Errorf("%v and %v are both written %q", b.loads, l, text)
				}
			}
		}
		if len(b.sights) > 0 {
			l := slices.Clone(b.sights)
			x := &l[d.roll(len(l))]
			*[]*int{&x.Hour, &x.Height}[d.roll(2)] += 1 + d.roll(130)
			if log, e := book.WriteLog(l); e == api.OK {
				changed[1]++
				if bytes.Equal(log, b.log) {
					t.Errorf("%v and %v are both written %x", b.sights, l, log)
				}
			}
		}
		if len(b.leaves) > 0 {
			l := slices.Clone(b.leaves)
			x := &l[d.roll(len(l))]
			x.Readings = slices.Clone(x.Readings)
			if len(x.Readings) == 0 {
				x.House++
			} else {
				x.Readings[d.roll(len(x.Readings))] += 1 + d.roll(100)
			}
			if text, e := book.WriteMeters(l); e == api.OK {
				changed[2]++
				if text == b.meters {
					t.Errorf("%v and %v are both written %q", b.leaves, l, text)
				}
			}
		}
	}
	if slices.Min(changed[:]) < 1000 {
		t.Errorf("only so many books were changed: %v", changed)
	}
}

// TestFewReadings checks that no two of all leaves with up to three readings of some are written alike.
func TestFewReadings(t *testing.T) {
	some := []int{0, 1, 10, 11, 100, 1000, 10_000, 10_001, 11_111, 99_999}
	seen := map[string][]int{}
	for i := range 11 * 11 * 11 {
		var l []int
		for _, at := range []int{i / 121, i / 11 % 11, i % 11} {
			if at < 10 {
				l = append(l, some[at])
			} else if len(l) > 0 {
				l = append(l, l[len(l)-1])
			}
		}
		text, e := book.WriteMeters([]api.Leaf{leaf(3, l...)})
		if before, is := seen[text]; is && !slices.Equal(before, l) || e != api.OK {
			t.Errorf("%v and %v are written %q, error %d", before, l, text, e)
		}
		seen[text] = l
	}
}

// TestWithoutTheLastByte checks that no book is read without its last byte, nor without more of them, unless lines of the meter book are left.
func TestWithoutTheLastByte(t *testing.T) {
	d := newDice(7)
	for range 300 {
		b := anyBooks(t, d)
		wantNoCharges(t, "without the last byte", b.charges[:len(b.charges)-1])
		wantNoLog(t, "without the last byte", b.log[:len(b.log)-1])
		wantNoCharges(t, "without more bytes", b.charges[:d.roll(len(b.charges))])
		wantNoLog(t, "without more bytes", b.log[:d.roll(len(b.log))])
		if b.meters == "" {
			continue
		}
		wantNoMeters(t, "without the last byte", b.meters[:len(b.meters)-1])
		part := b.meters[:d.roll(len(b.meters))]
		if lines := strings.Count(part, "\n"); part == "" || strings.HasSuffix(part, "\n") {
			wantMeters(t, "without some lines", part, b.leaves[:lines]...)
		} else {
			wantNoMeters(t, "without more bytes", part)
		}
	}
}

// TestOneByteMore checks that no charge book and no log is read with any byte more at its end, nor twice, and no meter book with one byte more, which is no line.
func TestOneByteMore(t *testing.T) {
	d := newDice(8)
	for range 100 {
		b := anyBooks(t, d)
		for one := range 256 {
			wantNoCharges(t, "a byte more", b.charges+string([]byte{byte(one)}))
			wantNoLog(t, "a byte more", append(slices.Clone(b.log), byte(one)))
			if b.meters != "" {
				wantNoMeters(t, "a byte more", b.meters+string([]byte{byte(one)}))
			}
		}
		wantNoCharges(t, "twice", b.charges+b.charges)
		wantNoLog(t, "twice", append(slices.Clone(b.log), b.log...))
	}
}

// TestOneHeight checks that two logs that differ in one Height alone, by from 1 to 60, have not the same check.
func TestOneHeight(t *testing.T) {
	d := newDice(9)
	for range 200 {
		l := anySights(d)
		if len(l) == 0 {
			continue
		}
		right := lastNumber(t, l)
		for by := 1; by <= 60; by++ {
			other := slices.Clone(l)
			x := &other[d.roll(len(l))]
			if x.Height+by <= api.MaxHeight {
				x.Height += by
			} else {
				x.Height -= by
			}
			if n := lastNumber(t, other); n == right {
				t.Errorf("%v and %v have both the check %d", l, other, n)
			}
		}
	}
}

// lastNumber returns the check in the bytes of a log.
func lastNumber(t *testing.T, l []api.Sight) int {
	t.Helper()
	b, e := book.WriteLog(l)
	n, right := unpacked(b)
	if e != api.OK || !right || len(n) < 2*len(l)+2 {
		t.Fatalf("the log of %v is %x, error %d", l, b, e)
	}
	return n[2*len(l)+1]
}

// TestOneLoadMore checks that with one load more a charge book has the lines that it had, but for the last one.
func TestOneLoadMore(t *testing.T) {
	d := newDice(10)
	for range 500 {
		l := anyLoads(d)
		before := ""
		for n := range len(l) + 1 {
			text, e := book.WriteCharges(l[:n])
			lines := strings.SplitAfter(text, "\n")
			if e != api.OK || len(lines) != n+2 || !strings.HasPrefix(text, before) || lines[n+1] != "" {
				t.Fatalf("%v is written %q, error %d; it should begin with %q", l[:n], text, e, before)
			}
			before = strings.Join(lines[:n], "")
		}
	}
}

// TestTogether checks that the meter book of two lists of leaves is one text after the other.
func TestTogether(t *testing.T) {
	d := newDice(11)
	for range 1000 {
		l := anyLeaves(d)
		at := d.roll(len(l) + 1)
		first, e1 := book.WriteMeters(l[:at])
		second, e2 := book.WriteMeters(l[at:])
		if e1 != api.OK || e2 != api.OK {
			t.Fatalf("%v is not written: errors %d, %d", l, e1, e2)
		}
		wantMeters(t, "together", first+second, l...)
		if first != "" && second != "" {
			wantNoMeters(t, "in the other order", second+first)
		}
	}
}

// TestAnyArguments calls all functions with numbers and bytes of all sorts: none of them panics or runs on, and none returns a result besides an error.
func TestAnyArguments(t *testing.T) {
	some := []int{math.MinInt, -1 << 40, -1, 0, 0, 1, 1, 2, 2, 3, 4, 5, 9, 10, 64, 999, 9999, 99_999, 100_000, 1 << 20, 1<<20 + 1, 1 << 40, math.MaxInt}
	d := newDice(12)
	var number func() int
	seen := map[api.Errno]int{}
	for range 20_000 {
		if d.roll(2) == 0 {
			number = func() int { return some[d.roll(len(some))] }
		} else {
			number = func() int { return some[3+d.roll(10)] }
		}
		loads := many(d.some(70), func(i int) api.Load { return load(i+number(), number(), number(), number()) })
		sights := many(d.some(70), func(i int) api.Sight { return sight(10*i+number(), number()) })
		leaves := many(d.some(40), func(i int) api.Leaf {
			return leaf(10*i+number(), many(d.roll(10), func(int) int { return number() })...)
		})
		text := many(d.roll(100), func(int) byte { return "0123456789 .\ntotal\x00\x80\xff"[d.roll(21)] })
		charges, e1 := book.WriteCharges(loads)
		log, e2 := book.WriteLog(sights)
		meters, e3 := book.WriteMeters(leaves)
		readLoads, e4 := book.ReadCharges(string(text))
		readSights, e5 := book.ReadLog(text)
		readLeaves, e6 := book.ReadMeters(string(text))
		for i, e := range []api.Errno{e1, e2, e3, e4, e5, e6} {
			seen[e]++
			if e != api.OK && []int{len(charges), len(log), len(meters), len(readLoads), len(readSights), len(readLeaves)}[i] != 0 {
				t.Errorf("of %v, %v, %v, %q it is said %q, %x, %q, %v, %v, %v, errors %d, %d, %d, %d, %d, %d", loads, sights, leaves, text, charges, log, meters, readLoads, readSights, readLeaves, e1, e2, e3, e4, e5, e6)
			}
		}
	}
	for _, e := range []api.Errno{api.OK, api.ErrArg, api.ErrLong, api.ErrOrder, api.ErrForm} {
		if seen[e] < 1000 {
			t.Errorf("the errors were %v", seen)
		}
	}
}
