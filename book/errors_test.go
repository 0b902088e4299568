package book_test

import (
	"math"
	"slices"
	"strings"
	"testing"

	"gasworks/api"
	"gasworks/book"
)

func wantNotCharges(t *testing.T, name string, e api.Errno, l ...api.Load) {
	t.Helper()
	if text, got := book.WriteCharges(l); text != "" || got != e {
		t.Errorf("%s: WriteCharges of %v = %q, error %d; want error %d", name, l, text, got, e)
	}
}

func wantNotLog(t *testing.T, name string, e api.Errno, l ...api.Sight) {
	t.Helper()
	if b, got := book.WriteLog(l); len(b) != 0 || got != e {
		t.Errorf("%s: WriteLog of %v = %x, error %d; want error %d", name, l, b, got, e)
	}
}

func wantNotMeters(t *testing.T, name string, e api.Errno, l ...api.Leaf) {
	t.Helper()
	if text, got := book.WriteMeters(l); text != "" || got != e {
		t.Errorf("%s: WriteMeters of %v = %q, error %d; want error %d", name, l, text, got, e)
	}
}

// beyond returns numbers that are less than the least or greater than the greatest one.
func beyond(least, most int) []int {
	return []int{least - 1, most + 1, -most - 1, 10 * most, 1<<32 + least, math.MinInt, math.MaxInt}
}

// TestLoadsBeyondTheirLimits sets each number of a load to its limits, and beyond them.
func TestLoadsBeyondTheirLimits(t *testing.T) {
	for name, f := range map[string]struct {
		at          func(x *api.Load) *int
		least, most int
	}{
		"Hour":   {func(x *api.Load) *int { return &x.Hour }, 0, 1 << 20},
		"Retort": {func(x *api.Load) *int { return &x.Retort }, 0, 999},
		"Coal":   {func(x *api.Load) *int { return &x.Coal }, 0, 999},
		"Weight": {func(x *api.Load) *int { return &x.Weight }, 1, 1 << 20},
	} {
		for _, n := range []int{f.least, f.least + 1, f.most - 1, f.most} {
			x := load(7, 7, 7, 7)
			*f.at(&x) = n
			text, e := book.WriteCharges([]api.Load{x})
			if l, e2 := book.ReadCharges(text); e != api.OK || e2 != api.OK || !slices.Equal(l, []api.Load{x}) {
				t.Errorf("%s: %v is written %q, error %d, and read %v, error %d", name, x, text, e, l, e2)
			}
		}
		for _, n := range beyond(f.least, f.most) {
			for i := range loads() {
				l := loads()
				*f.at(&l[i]) = n
				wantNotCharges(t, name, api.ErrArg, l...)
				wantNoCharges(t, name, chargeText(l))
			}
		}
	}
}

// TestSightsBeyondTheirLimits sets each number of a sight to its limits, and beyond them.
func TestSightsBeyondTheirLimits(t *testing.T) {
	for name, f := range map[string]struct {
		at   func(x *api.Sight) *int
		most int
	}{
		"Hour":   {func(x *api.Sight) *int { return &x.Hour }, 1 << 20},
		"Height": {func(x *api.Sight) *int { return &x.Height }, 100_000},
	} {
		for _, n := range []int{0, 1, f.most - 1, f.most} {
			x := sight(7, 7)
			*f.at(&x) = n
			b, e := book.WriteLog([]api.Sight{x})
			if l, e2 := book.ReadLog(b); e != api.OK || e2 != api.OK || !slices.Equal(l, []api.Sight{x}) {
				t.Errorf("%s: %v is written %x, error %d, and read %v, error %d", name, x, b, e, l, e2)
			}
		}
		for _, n := range beyond(0, f.most) {
			for i := range sights() {
				l := sights()
				*f.at(&l[i]) = n
				wantNotLog(t, name, api.ErrArg, l...)
			}
		}
	}
	// What the bytes say, as they would be written: a height above the greatest one, one below 0, and hours that come too late.
	wantNoLog(t, "too high", logBytes([]api.Sight{sight(0, 100_001)}))
	wantNoLog(t, "too high in the end", logBytes([]api.Sight{sight(0, 60_000), sight(1, 110_000)}))
	wantNoLog(t, "too low", logBytes([]api.Sight{sight(100, 5), sight(101, -1)}))
	wantNoLog(t, "too low at first", logBytes([]api.Sight{sight(100, -1)}))
	wantNoLog(t, "too late", logBytes([]api.Sight{sight(1<<20+1, 0)}))
	wantNoLog(t, "too late in the end", logBytes([]api.Sight{sight(1<<19, 0), sight(1<<20+1, 0)}))
	wantNoLog(t, "far too late", logBytes([]api.Sight{sight(1<<40, 0)}))
}

// TestLeavesBeyondTheirLimits sets each number of a leaf beyond its limits.
func TestLeavesBeyondTheirLimits(t *testing.T) {
	three := func() []api.Leaf { return []api.Leaf{leaf(1, 5), leaf(2, 5, 6, 7), leaf(3)} }
	for i := range three() {
		for _, n := range beyond(0, 9999) {
			l := three()
			l[i].House = n
			wantNotMeters(t, "House", api.ErrArg, l...)
		}
		for _, n := range beyond(0, 99_999) {
			for at := range three()[i].Readings {
				l := three()
				l[i].Readings[at] = n
				wantNotMeters(t, "a reading", api.ErrArg, l...)
			}
		}
		for _, n := range []int{9, 10, 100} {
			l := three()
			l[i].Readings = make([]int, n)
			wantNotMeters(t, "too many readings", api.ErrArg, l...)
			wantNoMeters(t, "too many readings", meterText(l))
		}
	}
	wantNoMeters(t, "House", "10000\n")
	wantNoMeters(t, "House", "1\n99999\n")
	wantNoMeters(t, "a reading", "1 100000\n")
	wantNoMeters(t, "a reading", "1 99999 100000\n")
}

// many returns so many elements, which are made by their indexes.
func many[T any](n int, f func(i int) T) []T {
	var l []T
	for i := range n {
		l = append(l, f(i))
	}
	return l
}

func TestTooMany(t *testing.T) {
	aLoad := func(i int) api.Load { return load(i, 0, 0, 1) }
	aSight := func(i int) api.Sight { return sight(i, 0) }
	aLeaf := func(i int) api.Leaf { return leaf(i) }
	wantCharges(t, "the most", chargeText(many(64, aLoad)), many(64, aLoad)...)
	wantLog(t, "the most", logBytes(many(60, aSight)), many(60, aSight)...)
	wantMeters(t, "the most", meterText(many(32, aLeaf)), many(32, aLeaf)...)
	for _, n := range []int{1, 2, 100, 1000} {
		wantNotCharges(t, "too many", api.ErrLong, many(64+n, aLoad)...)
		wantNotLog(t, "too many", api.ErrLong, many(60+n, aSight)...)
		wantNotMeters(t, "too many", api.ErrLong, many(32+n, aLeaf)...)
		wantNoCharges(t, "too many", chargeText(many(64+n, aLoad)))
		wantNoLog(t, "too many", logBytes(many(60+n, aSight)))
		wantNoMeters(t, "too many", meterText(many(32+n, aLeaf)))
	}
}

// TestOrderOfErrors checks lists in which several things are wrong.
func TestOrderOfErrors(t *testing.T) {
	wantNotCharges(t, "too many, not valid", api.ErrLong, make([]api.Load, 65)...)
	wantNotCharges(t, "not valid, not in order", api.ErrArg, make([]api.Load, 64)...)
	wantNotCharges(t, "not in order, then not valid", api.ErrArg, load(6, 1, 0, 6), load(5, 1, 0, 6), load(7, 1, 0, 0))
	wantNotLog(t, "too many, not valid", api.ErrLong, many(61, func(int) api.Sight { return sight(-1, -1) })...)
	wantNotLog(t, "not in order", api.ErrOrder, make([]api.Sight, 60)...)
	wantNotLog(t, "too many, not in order", api.ErrLong, make([]api.Sight, 61)...)
	wantNotLog(t, "not in order, then not valid", api.ErrArg, sight(6, 1), sight(5, 1), sight(7, -1))
	wantNotMeters(t, "too many, not valid", api.ErrLong, many(33, func(int) api.Leaf { return leaf(-1, -1) })...)
	wantNotMeters(t, "not in order", api.ErrOrder, make([]api.Leaf, 32)...)
	wantNotMeters(t, "too many, not in order", api.ErrLong, make([]api.Leaf, 33)...)
	wantNotMeters(t, "not in order, then not valid", api.ErrArg, leaf(6), leaf(5), leaf(7, 1, -1))
	wantNotMeters(t, "not in order, then too many readings", api.ErrArg, leaf(6), leaf(5), leaf(7, make([]int, 9)...))
}

func TestNotInOrder(t *testing.T) {
	for _, l := range [][]api.Load{
		{load(6, 1, 0, 6), load(5, 1, 0, 6)}, {load(5, 1, 0, 6), load(5, 1, 0, 6)}, {load(5, 2, 0, 6), load(5, 1, 0, 6)}, {load(5, 1, 0, 6), load(5, 1, 1, 7)}, {load(6, 1, 0, 6), load(5, 2, 0, 6)},
		{load(1, 1, 0, 6), load(2, 1, 0, 6), load(2, 0, 0, 6)}, {load(1, 1, 0, 6), load(1, 0, 0, 6), load(2, 0, 0, 6)}, {load(1, 0, 0, 6), load(3, 0, 0, 6), load(2, 0, 0, 6), load(4, 0, 0, 6)},
	} {
		wantNotCharges(t, "not in order", api.ErrOrder, l...)
		wantNoCharges(t, "not in order", chargeText(l))
	}
	for _, l := range [][]api.Sight{
		{sight(5, 1), sight(5, 1)}, {sight(5, 1), sight(5, 2)}, {sight(5, 1), sight(4, 2)}, {sight(1, 1), sight(2, 1), sight(2, 1)}, {sight(1, 1), sight(1, 1), sight(2, 1)}, {sight(1, 1), sight(3, 1), sight(2, 1), sight(4, 1)},
	} {
		wantNotLog(t, "not in order", api.ErrOrder, l...)
	}
	for _, l := range [][]api.Leaf{
		{leaf(2), leaf(2)}, {leaf(2), leaf(1)}, {leaf(2, 1), leaf(2, 2)}, {leaf(1), leaf(2), leaf(2)}, {leaf(1), leaf(1), leaf(2)}, {leaf(1), leaf(3), leaf(2), leaf(4)},
	} {
		wantNotMeters(t, "not in order", api.ErrOrder, l...)
		wantNoMeters(t, "not in order", meterText(l))
	}
}

func TestTextsThatAreNoCharges(t *testing.T) {
	for name, l := range map[string][]string{
		"no last line":    {"", "\n", "5 1 0 6\n", "5 1 0 6\n6 1 0 6\n"},
		"no line feed":    {"total 0 0", "5 1 0 6\ntotal 1 6", "5 1 0 6total 1 6\n"},
		"more after it":   {"total 0 0\n\n", "total 0 0\ntotal 0 0\n", "5 1 0 6\ntotal 1 6\n5 2 0 6\n", "total 0 0\n5 1 0 6\n", "5 1 0 6\ntotal 1 6\n5 2 0 6\ntotal 2 12\n"},
		"a line before":   {"\ntotal 0 0\n", "total 0 0\n5 1 0 6\ntotal 1 6\n", "\n5 1 0 6\ntotal 1 6\n", "5 1 0 6\n\ntotal 1 6\n"},
		"other totals":    {"total 0 1\n", "total 1 0\n", "5 1 0 6\ntotal 1 7\n", "5 1 0 6\ntotal 2 6\n", "5 1 0 6\ntotal 0 0\n", "5 1 0 6\ntotal 1 5\n", "5 1 0 6\ntotal 1 16\n"},
		"forms of totals": {"total 00 0\n", "total 0 00\n", "total 0 0 \n", "total  0 0\n", "total 0  0\n", " total 0 0\n", "Total 0 0\n", "TOTAL 0 0\n", "total 0\n", "total \n", "total\n", "total 0 0 0\n", "total -0 0\n", "total 0 +0\n", "total0 0\n", "tot 0 0\n", "total\t0 0\n", "total: 0 0\n"},
		"zeros before":    {"05 1 0 6\ntotal 1 6\n", "5 01 0 6\ntotal 1 6\n", "5 1 00 6\ntotal 1 6\n", "5 1 0 06\ntotal 1 6\n", "5 1 0 6\ntotal 01 6\n", "5 1 0 6\ntotal 1 06\n"},
		"blanks":          {"5  1 0 6\ntotal 1 6\n", " 5 1 0 6\ntotal 1 6\n", "5 1 0 6 \ntotal 1 6\n", "5\t1 0 6\ntotal 1 6\n", "5 1 0 6\r\ntotal 1 6\n", "5 1 0 6\ntotal 1 6\r\n", "5\u00a01 0 6\ntotal 1 6\n", "5 1 0 \ntotal 1 0\n", "   \ntotal 1 0\n"},
		"numbers":         {"5 1 0\ntotal 1 6\n", "5 1 0 6 6\ntotal 1 6\n", "5 1 6\ntotal 1 6\n", "6\ntotal 1 6\n", "5 1 0 6 5 2 0 6\ntotal 2 12\n"},
		"signs":           {"5 1 0 +6\ntotal 1 6\n", "+5 1 0 6\ntotal 1 6\n", "-0 1 0 6\ntotal 1 6\n", "-5 1 0 6\ntotal 1 6\n", "5 1 0 -6\ntotal 1 -6\n"},
		"other forms":     {"5 1 0 0x6\ntotal 1 6\n", "5 1 0 6.0\ntotal 1 6\n", "5 1 0 6e0\ntotal 1 6\n", "5 1 0 1_0\ntotal 1 10\n", "5 1 0 \u0666\ntotal 1 6\n", "5 1 0 \uff16\ntotal 1 6\n", "5 1 0 \xff\ntotal 1 6\n", "\ufeff5 1 0 6\ntotal 1 6\n", "5 1 0 a\ntotal 1 6\n", "5 1 0 :\ntotal 1 10\n", "5 1 0 /\ntotal 1 -1\n"},
		"large numbers":   {"99999999999999999999 1 0 6\ntotal 1 6\n", "18446744073709551621 1 0 6\ntotal 1 6\n", "4294967301 1 0 6\ntotal 1 6\n", "5 1 0 18446744073709551622\ntotal 1 6\n", "5 1 0 6\ntotal 1 18446744073709551622\n", strings.Repeat("9", 10_000) + " 1 0 6\ntotal 1 6\n", strings.Repeat("0", 10_000) + "5 1 0 6\ntotal 1 6\n"},
		"not valid":       {"5 1 0 0\ntotal 1 0\n", "1048577 1 0 6\ntotal 1 6\n", "5 1000 0 6\ntotal 1 6\n", "5 1 1000 6\ntotal 1 6\n", "5 1 0 1048577\ntotal 1 1048577\n"},
		"long texts":      {strings.Repeat(" ", 100_000), strings.Repeat("\n", 100_000), strings.Repeat("5 1 0 6\n", 10_000), "total 0 0\n" + strings.Repeat("x", 100_000), "5 1 0 6" + strings.Repeat(" 6", 100_000) + "\ntotal 1 6\n"},
	} {
		for _, text := range l {
			wantNoCharges(t, name, text)
		}
	}
}

func TestBytesThatAreNoLog(t *testing.T) {
	for name, l := range map[string][]string{
		"no number":          {"", "\x80", "\x88\x88", "\xff"},
		"a byte more":        {"\x00\x00", "\x00\x80", "\x35\xa4\x04\x27\xa1\x00", "\x35\xa4\x04\x27\xa1\x80", "\x10\x00\x00", "\x19\x09\xd4\x10\x00", "\x00\x01"},
		"too few":            {"\x08", "\x0f", "\x10", "\x20", "\x35\xa4\x04\x27", "\x35\xa4\x04\x28", "\xf6\x00", "\x19\x09\xd4"},
		"another check":      {"\x01", "\x02", "\x01\x00", "\x35\xa4\x04\x27\xa2", "\x35\xa4\x04\x27\x10", "\x35\xa4\x04\x27\x00", "\x10\x10", "\x11\x54", "\x11\x65"},
		"the check plus 61":  {"\x10\x0f\x50", "\x11\x6f\xa1\x00", "\x00\xf5", "\x0f\x50"},
		"a half byte not 0":  {"\x19\x09\xd4\x11", "\x19\x09\xd4\x18", "\x19\x09\xd4\x1f"},
		"zeros before":       {"\x80\x00", "\x81\x00\x00", "\x18\x00\x00", "\x10\x80\x00", "\x10\x08\x00", "\x18\x90\x9d\x41", "\x08\x00"},
		"too many":           {"\xf5" + strings.Repeat("\x00", 61), "\xff\xff\xff", "\xff\xff\xff\xff\xff\x70", strings.Repeat("\xff", 100_000), strings.Repeat("\x88", 100_000), strings.Repeat("\x00", 100_000)},
		"numbers too large":  {"\x1a\x88\x88\x88\x88\x88\x88\x88\x88\x88\x88\x88\x00\x00", "\x1c\x88\x88\x81\x00", "\x10\xff\xff\xff\xff\xff\xff\xff\xff\xff\xff\xf7\x00"},
		"texts of the books": {"5 1 0 6\ntotal 1 6\n", "12 01234\n"},
	} {
		for _, b := range l {
			wantNoLog(t, name, []byte(b))
		}
	}
}

func TestTextsThatAreNoMeters(t *testing.T) {
	for name, l := range map[string][]string{
		"no line feed":           {"12", "12 01234", "12\n13", "1\n\x00", " "},
		"empty lines":            {"\n", "12\n\n", "\n12\n", "12\n\n13\n"},
		"the first reading":      {"12 1234\n", "12 .\n", "12 0\n", "12 . 01234\n", "12 001234\n", "12 4 01234\n", "13 01234\n14 .\n", "13 01234\n14 5\n", "12 0000\n", "12 000000\n"},
		"figures that are same":  {"12 01234 240\n", "12 01234 01234\n", "12 01234 4\n", "12 01234 01235\n", "12 00000 00001\n", "12 99999 9998\n"},
		"the same":               {"12 01234 ..\n", "12 01234 . \n", "12 01234 .4\n", "12 01234 4.\n", "12 01234 ,\n", "12 01234 -\n", "12 01234 01234 .\n"},
		"too many figures":       {"12 012345\n", "12 01234 123456\n", "12 01234 101234\n", "12 01234 " + strings.Repeat("1", 10_000) + "\n"},
		"blanks":                 {"12 01234 \n", "12  01234\n", " 12\n", "12 \n", "12\t01234\n", "12 01234  5\n", "12 01234\r\n", "12\r\n", "12\u00a001234\n"},
		"houses":                 {"012 01234\n", "00\n", "10000\n", "-1\n", "-0\n", "+1\n", "x\n", "18446744073709551617\n", "4294967297\n", ".\n", strings.Repeat("9", 10_000) + "\n", strings.Repeat("0", 10_000) + "\n"},
		"other forms":            {"12 0123x\n", "12 01234 x\n", "12 -1234\n", "12 +1234\n", "12 01234 +5\n", "12 01234 -5\n", "12 1e003\n", "12 1_000\n", "12 01\u0662\n", "12 \u0661\u0662\u0663\n", "12 01234 \u0665\n", "12 01234 \xff\n", "12 \xff\xfe\xfd\xfc\xfb\n", "12 01234 \x00\n", "12 0123:\n", "12 0123/\n", "12 00000 :\n"},
		"not in order":           {"12\n12\n", "13\n12\n", "12 01234\n12 01234\n", "1\n3\n2\n"},
		"too many":               {"1 00000 . . . . . . . .\n", "1 00000 1 2 3 4 5 6 7 8\n", strings.Repeat("1\n", 33), strings.Repeat("1\n", 10_000), "1" + strings.Repeat(" .", 100_000) + "\n", strings.Repeat("\n", 100_000), strings.Repeat(" ", 100_000) + "\n"},
		"a text of another book": {"5 1 0 6\ntotal 1 6\n", "total 0 0\n"},
	} {
		for _, text := range l {
			wantNoMeters(t, name, text)
		}
	}
}
