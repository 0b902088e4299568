package book_test

import (
	"bytes"
	"reflect"
	"slices"
	"testing"

	"gasworks/api"
	"gasworks/book"
)

func load(hour, retort, coal, weight int) api.Load {
	return api.Load{Hour: hour, Retort: retort, Coal: coal, Weight: weight}
}

func sight(hour, height int) api.Sight { return api.Sight{Hour: hour, Height: height} }

func leaf(house int, readings ...int) api.Leaf { return api.Leaf{House: house, Readings: readings} }

// loads, sights and leaves return those of the chapter's examples.
func loads() []api.Load { return []api.Load{load(5, 1, 0, 6), load(5, 2, 1, 7), load(6, 1, 0, 6)} }

func sights() []api.Sight { return []api.Sight{sight(5, 10), sight(6, 12), sight(9, 8)} }

func leaves() []api.Leaf { return []api.Leaf{leaf(12, 1234, 1240, 1240, 11240)} }

// sameLeaves tells whether two lists of leaves are the same: a nil list of readings is an empty one.
func sameLeaves(a, b []api.Leaf) bool {
	return slices.EqualFunc(a, b, func(x, y api.Leaf) bool { return x.House == y.House && slices.Equal(x.Readings, y.Readings) })
}

// wantCharges checks that loads are written as a text, and read from it.
func wantCharges(t *testing.T, name, text string, l ...api.Load) {
	t.Helper()
	if got, e := book.WriteCharges(l); got != text || e != api.OK {
		t.Errorf("%s: WriteCharges of %v = %q, error %d; want %q", name, l, got, e, text)
	}
	if got, e := book.ReadCharges(text); !slices.Equal(got, l) || e != api.OK {
		t.Errorf("%s: ReadCharges of %q = %v, error %d; want %v", name, text, got, e, l)
	}
}

func wantLog(t *testing.T, name string, b []byte, l ...api.Sight) {
	t.Helper()
	if got, e := book.WriteLog(l); !bytes.Equal(got, b) || e != api.OK {
		t.Errorf("%s: WriteLog of %v = %x, error %d; want %x", name, l, got, e, b)
	}
	if got, e := book.ReadLog(b); !slices.Equal(got, l) || e != api.OK {
		t.Errorf("%s: ReadLog of %x = %v, error %d; want %v", name, b, got, e, l)
	}
}

func wantMeters(t *testing.T, name, text string, l ...api.Leaf) {
	t.Helper()
	if got, e := book.WriteMeters(l); got != text || e != api.OK {
		t.Errorf("%s: WriteMeters of %v = %q, error %d; want %q", name, l, got, e, text)
	}
	if got, e := book.ReadMeters(text); !sameLeaves(got, l) || e != api.OK {
		t.Errorf("%s: ReadMeters of %q = %v, error %d; want %v", name, text, got, e, l)
	}
}

func wantNoCharges(t *testing.T, name, text string) {
	t.Helper()
	if l, e := book.ReadCharges(text); len(l) != 0 || e != api.ErrForm {
		t.Errorf("%s: ReadCharges of %q = %v, error %d", name, text, l, e)
	}
}

func wantNoLog(t *testing.T, name string, b []byte) {
	t.Helper()
	if l, e := book.ReadLog(b); len(l) != 0 || e != api.ErrForm {
		t.Errorf("%s: ReadLog of %x = %v, error %d", name, b, l, e)
	}
}

func wantNoMeters(t *testing.T, name, text string) {
	t.Helper()
	if l, e := book.ReadMeters(text); len(l) != 0 || e != api.ErrForm {
		t.Errorf("%s: ReadMeters of %q = %v, error %d", name, text, l, e)
	}
}

func TestExamples(t *testing.T) {
	wantCharges(t, "example", "5 1 0 6\n5 2 1 7\n6 1 0 6\ntotal 3 19\n", loads()...)
	wantLog(t, "example", []byte{0x35, 0xa4, 0x04, 0x27, 0xa1}, sights()...)
	wantLog(t, "of none", []byte{0x00})
	wantLog(t, "of 8, 54 alone", []byte{0x19, 0x09, 0xd4, 0x10}, sight(8, 54))
	wantMeters(t, "example", "12 01234 40 . 11240\n", leaves()...)
	wantNoMeters(t, "a figure that is the same", "12 01234 240\n")
	wantNoMeters(t, "four figures at first", "12 1234\n")
	wantNoLog(t, "another check", []byte{0x35, 0xa4, 0x04, 0x27, 0xa2})
	wantNoLog(t, "a byte more", []byte{0x00, 0x00})
}

func TestCharges(t *testing.T) {
	wantCharges(t, "of none", "total 0 0\n")
	wantCharges(t, "the least", "0 0 0 1\ntotal 1 1\n", load(0, 0, 0, 1))
	wantCharges(t, "the greatest", "1048576 999 999 1048576\ntotal 1 1048576\n", load(1<<20, 999, 999, 1<<20))
	wantCharges(t, "the same hour", "5 0 7 10\n5 1 7 10\n5 999 7 10\ntotal 3 30\n", load(5, 0, 7, 10), load(5, 1, 7, 10), load(5, 999, 7, 10))
	wantCharges(t, "a later hour", "5 9 7 10\n6 9 7 10\n10 0 7 10\ntotal 3 30\n", load(5, 9, 7, 10), load(6, 9, 7, 10), load(10, 0, 7, 10))
	var most []api.Load
	text := ""
	for i := range 64 {
		most = append(most, load(1<<20, 900+i, 0, 1<<20))
		text += "1048576 " + string([]byte{'9', byte('0' + i/10), byte('0' + i%10)}) + " 0 1048576\n"
	}
	wantCharges(t, "the most", text+"total 64 67108864\n", most...)
}

func TestLog(t *testing.T) {
	wantLog(t, "zeros", []byte{0x10, 0x00}, sight(0, 0))
	wantLog(t, "the hour alone", []byte{0x17, 0x07}, sight(7, 0))
	wantLog(t, "the height alone", []byte{0x10, 0x63}, sight(0, 3))
	wantLog(t, "two figures", []byte{0x19, 0x00, 0x90}, sight(8, 0))
	wantLog(t, "the greatest that is written in two", []byte{0x1f, 0x70, 0x20}, sight(63, 0))
	wantLog(t, "three figures", []byte{0x19, 0x80, 0x03}, sight(64, 0))
	// 2; 0, 2 * 1; 0, 2 * 0; 1 + 1 + 2 are 4.
	wantLog(t, "the next hour, the same height", []byte{0x20, 0x20, 0x04}, sight(0, 1), sight(1, 1))
	// 2; 0, 4; 0, 2 * 1 - 1 = 1; 1 + 2 + 2 * 1 are 5. Then lower by two: 2 * 2 - 1 = 3, 1 + 2.
	wantLog(t, "lower by one", []byte{0x20, 0x40, 0x15}, sight(0, 2), sight(1, 1))
	wantLog(t, "lower by two", []byte{0x20, 0x40, 0x33}, sight(0, 2), sight(1, 0))
	// To the base 8: 1; 4000000, 606500 (200000); and 1048576 + 100000 are 7 modulo 61.
	wantLog(t, "the greatest", []byte{0x1c, 0x88, 0x88, 0x80, 0xe8, 0xed, 0x80, 0x70}, sight(1<<20, 100_000))
	// To the base 8: 2; 0, 606500; 3777777, 606477 (199999); and 100000 + 1048576 are 7 modulo 61.
	wantLog(t, "from the greatest to the least", []byte{0x20, 0xe8, 0xed, 0x80, 0xbf, 0xff, 0xff, 0x7e, 0x8e, 0xcf, 0x77}, sight(0, 100_000), sight(1<<20, 0))
}

// TestCheck checks the last number of some logs, with which their bytes end.
func TestCheck(t *testing.T) {
	wantLog(t, "60", []byte{0x1f, 0x40, 0xf4}, sight(60, 0))
	wantLog(t, "61", []byte{0x1f, 0x50, 0x00}, sight(61, 0))
	wantLog(t, "62", []byte{0x1f, 0x60, 0x10}, sight(62, 0))
	wantLog(t, "122", []byte{0x19, 0xf2, 0x00}, sight(122, 0))
	wantLog(t, "the place", []byte{0x30, 0x00, 0x00, 0x26}, sight(0, 0), sight(1, 0), sight(2, 1))
	wantLog(t, "beyond 61 by the place", []byte{0x30, 0x00, 0x00, 0xd0, 0x20}, sight(0, 0), sight(1, 0), sight(2, 20))
}

func TestMeters(t *testing.T) {
	wantMeters(t, "of none", "")
	wantMeters(t, "without readings", "0\n9999\n", leaf(0), leaf(9999))
	wantMeters(t, "the least and the greatest", "0 00000 99999 00000\n9999 99999\n", leaf(0, 0, 99_999, 0), leaf(9999, 99_999))
	wantMeters(t, "from which figure on", "7 12345 6 55 400 3000 20000\n", leaf(7, 12_345, 12_346, 12_355, 12_400, 13_000, 20_000))
	wantMeters(t, "figures that are the same again", "7 11111 2111 1111 21111\n", leaf(7, 11_111, 12_111, 11_111, 21_111))
	wantMeters(t, "less than before", "7 00100 099 1 0\n", leaf(7, 100, 99, 91, 90))
	wantMeters(t, "the same", "7 00000 . .\n8 00000 . 1 .\n", leaf(7, 0, 0, 0), leaf(8, 0, 0, 1, 1))
	wantMeters(t, "the most", "1 00000 . . . . . . .\n", leaf(1, make([]int, 8)...))
	wantMeters(t, "each leaf by itself", "1 12345\n2 12345\n3 12346\n", leaf(1, 12_345), leaf(2, 12_345), leaf(3, 12_346))
	wantMeters(t, "houses", "9\n10\n100\n1000\n", leaf(9), leaf(10), leaf(100), leaf(1000))
	var most []api.Leaf
	for i := range 32 {
		most = append(most, leaf(i, 99_999, 0, 99_999, 0, 99_999, 0, 99_999, 0))
	}
	text, e := book.WriteMeters(most)
	if l, e2 := book.ReadMeters(text); e != api.OK || e2 != api.OK || !sameLeaves(l, most) {
		t.Errorf("the most: %q, error %d, is read as %v, error %d", text, e, l, e2)
	}
}

// TestNilAndEmpty checks that a nil list is an empty one.
func TestNilAndEmpty(t *testing.T) {
	for _, l := range [][]api.Load{nil, {}} {
		wantCharges(t, "empty", "total 0 0\n", l...)
	}
	for _, l := range [][]api.Sight{nil, {}} {
		wantLog(t, "empty", []byte{0}, l...)
	}
	for _, l := range [][]api.Leaf{nil, {}} {
		wantMeters(t, "empty", "", l...)
	}
	wantMeters(t, "empty readings", "1\n2\n", leaf(1), api.Leaf{House: 2, Readings: []int{}})
	wantNoLog(t, "nil", nil)
	wantNoLog(t, "empty", []byte{})
}

// TestMemory checks that results are new memory, and that arguments are left as they are.
func TestMemory(t *testing.T) {
	a, b, c := loads(), sights(), []api.Leaf{leaf(1, 5, 6), leaf(2, 5, 6)}
	text, _ := book.WriteCharges(a)
	first, _ := book.WriteLog(b)
	second, _ := book.WriteLog(b)
	meters, _ := book.WriteMeters(c)
	if !reflect.DeepEqual(a, loads()) || !reflect.DeepEqual(b, sights()) || !reflect.DeepEqual(c, []api.Leaf{leaf(1, 5, 6), leaf(2, 5, 6)}) {
		t.Errorf("what was written is now %v, %v, %v", a, b, c)
	}
	kept := slices.Clone(first)
	l, _ := book.ReadLog(first)
	if !bytes.Equal(first, kept) {
		t.Errorf("what was read is now %x", first)
	}
	for i := range first {
		first[i] = 0xff
	}
	if !bytes.Equal(second, kept) || !slices.Equal(l, sights()) || !slices.Equal(b, sights()) {
		t.Errorf("changed bytes of a log change others: %x, %v, %v", second, l, b)
	}
	l[0] = sight(0, 0)
	wantLog(t, "again", kept, sights()...)
	read, _ := book.ReadMeters(meters)
	other, _ := book.ReadMeters(meters)
	read[0].Readings[0] = 9
	read[0].Readings = append(read[0].Readings, 7, 7, 7)
	if !sameLeaves(read[1:], c[1:]) || !sameLeaves(other, c) {
		t.Errorf("changed leaves change others: %v, %v", read, other)
	}
	charges, _ := book.ReadCharges(text)
	charges[0] = load(0, 0, 0, 1)
	wantCharges(t, "again", text, loads()...)
}
