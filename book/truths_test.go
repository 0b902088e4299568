package book_test

import (
	"bytes"
	"encoding/hex"
	"fmt"
	"slices"
	"strconv"
	"strings"
	"testing"

	"gasworks/api"
	"gasworks/book"
)

// A dice rolls the same numbers in each run of the tests.
type dice struct{ at uint64 }

func newDice(seed uint64) *dice { return &dice{at: seed} }

func (d *dice) roll(n int) int {
	d.at = d.at*6364136223846793005 + 1442695040888963407
	return int(d.at >> 33 % uint64(n))
}

// size returns a number from 0 to a greatest one: often a small one, or the greatest.
func (d *dice) size(most int) int {
	switch d.roll(6) {
	case 0:
		return 0
	case 1:
		return most
	}
	n := 1
	for range d.roll(21) {
		n = 2*n + d.roll(2)
	}
	return n % (most + 1)
}

// some returns how many elements a list has: often few, or the most.
func (d *dice) some(most int) int {
	return []int{d.roll(3), d.roll(6), d.roll(most + 1), most}[d.roll(4)]
}

// rising returns numbers up to a greatest one that rise strictly, near to each other or far.
func (d *dice) rising(n, most int) []int {
	all := map[int]bool{}
	first := d.size(most)
	for len(all) < n {
		if d.roll(2) == 0 {
			all[d.roll(most+1)] = true
		} else {
			all[min(most, first+d.roll(2*n))] = true
		}
	}
	var l []int
	for k := range all {
		l = append(l, k)
	}
	slices.Sort(l)
	return l
}

func anyLoads(d *dice) []api.Load {
	var l []api.Load
	wide := d.roll(2) == 0
	for _, n := range d.rising(d.some(api.MaxBook), 4*(api.MaxHour+1)-1) { // an hour, and one of four retorts
		x := load(n/4, n%4, d.size(api.MaxNumber), 1+d.size(api.MaxTons-1))
		if wide {
			x.Retort *= 333
		}
		l = append(l, x)
	}
	return l
}

func anySights(d *dice) []api.Sight {
	var l []api.Sight
	height := d.size(api.MaxHeight)
	for _, hour := range d.rising(d.some(api.MaxSights), api.MaxHour) {
		switch d.roll(3) {
		case 0:
			height = d.size(api.MaxHeight)
		case 1:
			height = min(api.MaxHeight, max(0, height+d.roll(21)-10))
		}
		l = append(l, sight(hour, height))
	}
	return l
}

func anyLeaves(d *dice) []api.Leaf {
	var l []api.Leaf
	for _, house := range d.rising(d.some(api.MaxLeaves), api.MaxHouse) {
		x := leaf(house)
		n := d.size(api.MaxReading)
		for range d.some(api.MaxReadings) {
			x.Readings = append(x.Readings, n)
			if d.roll(5) == 0 {
				n = d.size(api.MaxReading)
			} else {
				n = min(api.MaxReading, n+d.roll(1+d.size(2000)))
			}
		}
		l = append(l, x)
	}
	return l
}

// chargeText returns the text that loads would have, whether they are valid or not.
func chargeText(l []api.Load) string {
	text, sum := "", 0
	for _, x := range l {
		text += fmt.Sprintf("%d %d %d %d\n", x.Hour, x.Retort, x.Coal, x.Weight)
		sum += x.Weight
	}
	return text + fmt.Sprintf("total %d %d\n", len(l), sum)
}

// logNumbers returns the numbers of a log, whether it is valid or not.
func logNumbers(l []api.Sight) []int {
	numbers, sum := []int{len(l)}, 0
	for i, x := range l {
		hours, up := x.Hour, x.Height
		if i > 0 {
			hours, up = x.Hour-l[i-1].Hour-1, x.Height-l[i-1].Height
		}
		if up < 0 {
			numbers = append(numbers, hours, -up+-up-1)
		} else {
			numbers = append(numbers, hours, up+up)
		}
		sum += x.Hour
		for range i + 1 {
			sum += x.Height
		}
	}
	return append(numbers, sum%61)
}

// packed returns the bytes of numbers, none of which is below 0, by the texts of their half bytes.
func packed(numbers []int) []byte {
	text := ""
	for _, n := range numbers {
		octal := strconv.FormatInt(int64(n), 8)
		last := len(octal) - 1
		text += strings.NewReplacer("0", "8", "1", "9", "2", "a", "3", "b", "4", "c", "5", "d", "6", "e", "7", "f").Replace(octal[:last]) + octal[last:]
	}
	if len(text)%2 > 0 {
		text += "0"
	}
	b, err := hex.DecodeString(text)
	if err != nil {
		panic(err)
	}
	return b
}

func logBytes(l []api.Sight) []byte { return packed(logNumbers(l)) }

// unpacked returns the numbers of half bytes that are ended, and whether none has a zero before it.
func unpacked(b []byte) (numbers []int, right bool) {
	right = true
	for part := range strings.SplitAfterSeq(octalWords(b), " ") {
		if !strings.HasSuffix(part, " ") {
			break
		}
		n, err := strconv.ParseInt(strings.TrimSpace(part), 8, 64)
		numbers = append(numbers, int(n))
		right = right && err == nil && strconv.FormatInt(n, 8)+" " == part
	}
	return numbers, right
}

// octalWords returns half bytes as figures to the base 8, with a blank after the last one of each number.
func octalWords(b []byte) string {
	text := ""
	for _, r := range hex.EncodeToString(b) {
		if at := strings.IndexRune("89abcdef", r); at >= 0 {
			text += strconv.Itoa(at)
		} else {
			text += string(r) + " "
		}
	}
	return text
}

// meterText returns the text that leaves would have, whether they are valid or not; their readings are from 0 to 99999.
func meterText(l []api.Leaf) string {
	text := ""
	for _, x := range l {
		words := []string{strconv.Itoa(x.House)}
		for i, n := range x.Readings {
			word := fmt.Sprintf("%05d", n)
			for i > 0 && word != "" && strings.HasPrefix(fmt.Sprintf("%05d", x.Readings[i-1]), fmt.Sprintf("%05d", n)[:6-len(word)]) {
				word = word[1:]
			}
			if word == "" {
				word = "."
			}
			words = append(words, word)
		}
		text += strings.Join(words, " ") + "\n"
	}
	return text
}

// TestAnyBooks holds what is written of any books against what is put together of their parts, and checks that it is read again.
func TestAnyBooks(t *testing.T) {
	d := newDice(1)
	for range 3000 {
		a, b, c := anyLoads(d), anySights(d), anyLeaves(d)
		wantCharges(t, "any", chargeText(a), a...)
		wantLog(t, "any", logBytes(b), b...)
		wantMeters(t, "any", meterText(c), c...)
	}
}

// TestSmallLogs holds ReadLog of all bytes up to three against all logs that have so few.
func TestSmallLogs(t *testing.T) {
	small := map[string][]api.Sight{}
	for hour := range 600 {
		for height := range 300 {
			l := []api.Sight{sight(hour, height)}
			if b := logBytes(l); len(b) <= 3 {
				small[string(b)] = l
			}
		}
	}
	for i := range 8 * 8 * 8 * 8 {
		l := []api.Sight{sight(i%8, i/8%8), sight(i%8+1+i/64%8, i/8/64)}
		if b := logBytes(l); len(b) <= 3 {
			small[string(b)] = l
		}
	}
	small["\x00"] = nil
	read := 0
	check := func(b ...byte) {
		l, e := book.ReadLog(b)
		want, is := small[string(b)]
		if is != (e == api.OK) || !is && e != api.ErrForm || !slices.Equal(l, want) {
			t.Errorf("ReadLog of %x = %v, error %d; want %v", b, l, e, want)
		}
		if is {
			read++
		}
	}
	for i := range 1 << 8 {
		check(byte(i))
	}
	for i := range 1 << 16 {
		check(byte(i>>8), byte(i))
	}
	for i := range 3 << 20 { // the first half byte is 0, 1 or 2
		check(byte(i>>16), byte(i>>8), byte(i))
	}
	if read != len(small) || read < 400 {
		t.Errorf("%d of %d small logs were read", read, len(small))
	}
}

// changedBytes returns bytes of which some were changed, left out, doubled or put in, mostly such as books have.
func changedBytes(d *dice, b []byte, usual string) []byte {
	b = slices.Clone(b)
	for range 1 + d.roll(2) {
		at := d.roll(len(b) + 1)
		one := usual[d.roll(len(usual))]
		if d.roll(10) == 0 {
			one = byte(d.roll(256))
		}
		switch d.roll(4) {
		case 0:
			b = slices.Insert(b, at, one)
		case 1:
			b = slices.Delete(b, at, min(len(b), at+1))
		case 2:
			if at < len(b) {
				b[at] = one
			}
		case 3:
			b = slices.Insert(b, at, b[at:min(len(b), at+d.roll(12))]...)
		}
	}
	return b
}

// counted counts what was read of changed books, and what was not.
type counted struct{ read, not int }

func (c *counted) add(read bool) {
	if read {
		c.read++
	} else {
		c.not++
	}
}

func (c *counted) check(t *testing.T) {
	t.Helper()
	if min(c.read, c.not) < 100 {
		t.Errorf("%d changed books were read, and %d not", c.read, c.not)
	}
}

// TestChangedCharges holds ReadCharges of texts that were changed against another reader.
func TestChangedCharges(t *testing.T) {
	d := newDice(2)
	var c counted
	for range 30_000 {
		l := anyLoads(d)
		l = l[:min(len(l), d.roll(4))]
		text := string(changedBytes(d, []byte(chargeText(l)), "0123456789 \n"))
		var want []api.Load
		for _, line := range strings.Split(text, "\n") {
			var x api.Load
			if n, _ := fmt.Sscanf(line, "%d %d %d %d", &x.Hour, &x.Retort, &x.Coal, &x.Weight); n == 4 {
				want = append(want, x)
			}
		}
		_, e := book.WriteCharges(want)
		c.add(e == api.OK && chargeText(want) == text)
		if e == api.OK && chargeText(want) == text {
			wantCharges(t, "changed", text, want...)
		} else {
			wantNoCharges(t, "changed", text)
		}
	}
	c.check(t)
}

// TestChangedLogs holds ReadLog of bytes that were changed, or that begin as others do, against another reader.
func TestChangedLogs(t *testing.T) {
	d := newDice(3)
	var c counted
	for range 30_000 {
		l := anySights(d)
		n := logNumbers(l[:min(len(l), d.roll(4))])
		if d.roll(2) == 0 {
			n[d.roll(len(n))] = d.size(100)
		}
		b := packed(n)
		if d.roll(2) == 0 {
			b = changedBytes(d, b, "\x00\x01\x10\x17\x35\x80\x88\x98\xa4\xff")
		}
		want := unpackedSights(b)
		_, e := book.WriteLog(want)
		c.add(e == api.OK && bytes.Equal(logBytes(want), b))
		if e == api.OK && bytes.Equal(logBytes(want), b) {
			wantLog(t, "changed", b, want...)
		} else {
			wantNoLog(t, "changed", b)
		}
	}
	c.check(t)
}

// unpackedSights returns the sights that the numbers of bytes tell, if there are enough of them; otherwise one that is not valid.
func unpackedSights(b []byte) []api.Sight {
	n, right := unpacked(b)
	if !right || len(n) == 0 || (len(n)-2)/2 < n[0] {
		return []api.Sight{sight(-1, -1)}
	}
	var l []api.Sight
	hour, height := 0, 0
	for i := range n[0] {
		hour += n[1+2*i]
		up := n[2+2*i]
		if up%2 > 0 {
			up = -up - 1
		}
		height += up / 2
		l = append(l, sight(hour+i, height))
	}
	return l
}

// TestChangedMeters holds ReadMeters of texts that were changed against another reader.
func TestChangedMeters(t *testing.T) {
	d := newDice(4)
	var c counted
	for range 30_000 {
		l := anyLeaves(d)
		l = l[:min(len(l), d.roll(4))]
		text := string(changedBytes(d, []byte(meterText(l)), "0123456789 .\n"))
		var want []api.Leaf
		for line := range strings.Lines(text) {
			words := strings.Fields(line)
			if len(words) == 0 {
				break
			}
			house, _ := strconv.Atoi(words[0])
			x, before := leaf(house), "00000"
			for _, word := range words[1:] {
				word = strings.Trim(word, ".")
				before = before[:max(0, 5-len(word))] + word
				n, _ := strconv.Atoi(before)
				x.Readings = append(x.Readings, n)
			}
			want = append(want, x)
		}
		_, e := book.WriteMeters(want)
		c.add(e == api.OK && meterText(want) == text)
		if e == api.OK && meterText(want) == text {
			wantMeters(t, "changed", text, want...)
		} else {
			wantNoMeters(t, "changed", text)
		}
	}
	c.check(t)
}
