package foreman_test

import (
	"fmt"
	"slices"
	"strconv"
	"strings"
	"testing"

	"gasworks/api"
	"gasworks/coal"
	"gasworks/foreman"
	"gasworks/retort"
	"gasworks/tar"
)

// A dice rolls the same numbers in each run of the tests.
type dice struct{ at uint64 }

func newDice(seed uint64) *dice { return &dice{at: seed} }

func (d *dice) roll(n int) int {
	d.at = d.at*6364136223846793005 + 1442695040888963407
	return int(d.at >> 33 % uint64(n))
}

// smallWorks returns works with which a line is soon refused, for each of the reasons that there can be.
func smallWorks() api.Works {
	return changed(func(w *api.Works) { w.House.Gang, w.House.Least, w.House.Runs, w.House.Scurf = 2, 1, 1, 1 })
}

// A note is an entry as the tests keep it: a move, or a stoke where its verb is one of a stoke.
type note struct {
	verb    string
	numbers []int
}

func (n note) line() string { return n.verb + " " + joined(n.numbers) }

func joined(numbers []int) string {
	return strings.Trim(fmt.Sprint(numbers), "[]")
}

func anyNote(d *dice) note {
	hour, retort := d.roll(16), d.roll(3)
	switch d.roll(12) {
	case 0, 1:
		return note{"arrive", []int{hour, d.roll(2), 1 + d.roll(9)}}
	case 2, 3:
		return note{"draw", []int{hour, 1 + d.roll(6)}}
	case 4:
		return note{"arrive", []int{hour, d.roll(3), d.roll(4)}}
	case 5, 6, 7:
		return note{"charge", []int{hour, retort, 1 + d.roll(4)}}
	case 8, 9:
		return note{"empty", []int{hour, retort}}
	}
	return note{[]string{"scour", "out", "light"}[d.roll(3)], []int{hour, retort}}
}

// A model is a desk as the chapter describes it: entries by their numbers, and the number that was given last.
type model struct {
	works api.Works
	notes map[int]note
	last  int
}

// booksOf returns the books of notes, found hour by hour and number by number.
func booksOf(notes map[int]note, last int) api.Books {
	var b api.Books
	for hour := range 40 {
		for number := 1; number <= last; number++ {
			n, is := notes[number]
			if !is || n.numbers[0] != hour {
				continue
			}
			kind := slices.Index([]string{"charge", "empty", "scour", "out", "light"}, n.verb)
			switch n.verb {
			case "arrive":
				b.Moves = append(b.Moves, api.Move{Hour: hour, Coal: n.numbers[1], Tons: n.numbers[2]})
			case "draw":
				b.Moves = append(b.Moves, api.Move{Hour: hour, Coal: -1, Tons: n.numbers[1]})
			case "charge":
				b.Stokes = append(b.Stokes, api.Stoke{Hour: hour, Retort: n.numbers[1], Kind: kind, Tons: n.numbers[2]})
			default:
				b.Stokes = append(b.Stokes, api.Stoke{Hour: hour, Retort: n.numbers[1], Kind: kind})
			}
		}
	}
	return b
}

// errorOf returns the error of books.
func errorOf(w api.Works, b api.Books) api.Errno {
	if _, e := coal.Left(api.Yard{Coals: w.Coals, Moves: b.Moves}); e != api.OK {
		return e
	}
	if _, _, e := retort.Play(w.House, b.Stokes); e != api.OK {
		return e
	}
	if !happened(b) {
		return api.ErrShort
	}
	return api.OK
}

// happened follows the hours, and tells whether no more was charged than drawn, nor drawn than had arrived.
func happened(b api.Books) bool {
	yard, house := 0, 0
	for hour := range 40 {
		for _, m := range b.Moves {
			if m.Hour != hour {
				continue
			}
			if m.Coal != -1 {
				yard += m.Tons
				continue
			}
			yard -= m.Tons
			house += m.Tons
			if yard < 0 {
				return false
			}
		}
		for _, k := range b.Stokes {
			if k.Hour == hour {
				house -= k.Tons
			}
		}
		if house < 0 {
			return false
		}
	}
	return true
}

// try takes notes instead of those of the model, if their books are right.
func (m *model) try(notes map[int]note, last int, reply string) string {
	if e := errorOf(m.works, booksOf(notes, last)); e != api.OK {
		return "error " + strconv.Itoa(int(e))
	}
	m.notes, m.last = notes, last
	return reply
}

// with returns the notes with one instead of that with the number.
func (m *model) with(number int, n note) map[int]note {
	all := m.without(number)
	all[number] = n
	return all
}

func (m *model) without(number int) map[int]note {
	all := map[int]note{}
	for k, n := range m.notes {
		if k != number {
			all[k] = n
		}
	}
	return all
}

func (m *model) enter(n note) string {
	return m.try(m.with(m.last+1, n), m.last+1, "entry "+strconv.Itoa(m.last+1))
}

func (m *model) strike(number int) string {
	if _, is := m.notes[number]; !is {
		return "error 4"
	}
	return m.try(m.without(number), m.last, "struck "+strconv.Itoa(number))
}

func (m *model) amend(number int, n note) string {
	if _, is := m.notes[number]; !is {
		return "error 4"
	}
	return m.try(m.with(number, n), m.last, "amended "+strconv.Itoa(number))
}

// change returns a line that can change the books, and the reply that it is to have.
func (m *model) change(d *dice) (line, reply string) {
	n := anyNote(d)
	number := d.roll(m.last + 2)
	switch d.roll(6) {
	case 0:
		return "strike " + strconv.Itoa(number), m.strike(number)
	case 1:
		return "amend " + strconv.Itoa(number) + " " + n.line(), m.amend(number, n)
	}
	return n.line(), m.enter(n)
}

// said returns the reply with numbers, or the error.
func said(word string, e api.Errno, numbers ...int) string {
	if e != api.OK {
		return "error " + strconv.Itoa(int(e))
	}
	return strings.TrimSpace(word + " " + joined(numbers))
}

// questions returns lines that change nothing, each with the reply that it is to have.
func (m *model) questions() []string {
	b := booksOf(m.notes, m.last)
	yard := api.Yard{Coals: m.works.Coals, Moves: b.Moves}
	numbers := []int{}
	for k := 1; k <= m.last; k++ {
		if _, is := m.notes[k]; is {
			numbers = append(numbers, k)
		}
	}
	l := []string{"entries", said("entries", api.OK, numbers...)}
	parts, e := coal.Left(yard)
	numbers = nil
	for _, p := range parts {
		numbers = append(numbers, p.Layer, p.Tons)
	}
	l = append(l, "left", said("left", e, numbers...))
	stock := make([]int, m.works.Goods)
	for last := range 4 {
		for first := range last + 2 {
			for what := range 5 {
				s, e := coal.Yield(yard, first, last, what)
				l = append(l, "yield "+joined([]int{first, last, what}), said("yield", e, s.Lo, s.Hi))
			}
		}
	}
	for last := 0; ; last++ {
		oil, e := coal.Yield(yard, 0, last, api.OfTar)
		coke, _ := coal.Yield(yard, 0, last, api.OfCoke)
		if e != api.OK {
			break
		}
		stock[0], stock[1] = oil.Lo, coke.Lo
	}
	plan, income, e := tar.Plan(api.Yards{Stock: stock, Stills: m.works.Stills, Sales: m.works.Sales})
	l = append(l, "plan", said("plan", e, append(plan, income)...))
	for from := range 20 {
		for _, to := range []int{from - 1, from, from + 3} {
			if to < 0 {
				continue
			}
			s, e := retort.Make(m.works.House, b.Stokes, from, to)
			l = append(l, "gas "+joined([]int{from, to}), said("gas", e, s.Lo, s.Hi))
		}
	}
	hour, s, e := retort.Peak(m.works.House, b.Stokes)
	l = append(l, "peak", said("peak", e, hour, s.Lo, s.Hi))
	for k := range 9 {
		hour, e := retort.Soonest(m.works.House, b.Stokes, k)
		l = append(l, "soonest "+strconv.Itoa(k), said("soonest", e, hour))
	}
	return l
}

// TestModel holds a desk against the model, line by line.
func TestModel(t *testing.T) {
	d := newDice(1)
	replies := map[string]int{}
	for range 150 {
		m := model{works: smallWorks(), notes: map[int]note{}}
		desk := newDesk(t, smallWorks())
		for range 80 {
			line, want := m.change(d)
			play(t, desk, line, want)
			wantBooks(t, line, desk, booksOf(m.notes, m.last))
			word, number, _ := strings.Cut(want, " ")
			if word == "error" {
				word += number
			}
			replies[word]++
			if d.roll(20) == 0 {
				play(t, desk, m.questions()...)
			}
			if t.Failed() {
				t.Fatal("the model has another desk")
			}
		}
		play(t, desk, m.questions()...)
	}
	for _, word := range []string{"entry", "struck", "amended", "error1", "error4", "error6", "error7", "error9", "error10", "error11"} {
		if replies[word] < 10 {
			t.Errorf("there are %d replies %s", replies[word], word)
		}
	}
}

// anyDesk returns a desk that has done many lines, and these lines.
func anyDesk(t *testing.T, d *dice, lines int) (*foreman.Desk, []string) {
	t.Helper()
	m := model{works: smallWorks(), notes: map[int]note{}}
	desk := newDesk(t, smallWorks())
	var l []string
	for range lines {
		line, want := m.change(d)
		play(t, desk, line, want)
		l = append(l, line)
	}
	return desk, l
}

// linesOf returns entry lines of books, the moves before the stokes.
func linesOf(b api.Books) []string {
	var l []string
	for _, m := range b.Moves {
		if m.Coal == api.Drawn {
			l = append(l, fmt.Sprintf("draw %d %d", m.Hour, m.Tons))
		} else {
			l = append(l, fmt.Sprintf("arrive %d %d %d", m.Hour, m.Coal, m.Tons))
		}
	}
	for _, k := range b.Stokes {
		line := fmt.Sprintf("%s %d %d", []string{"charge", "empty", "scour", "out", "light"}[k.Kind], k.Hour, k.Retort)
		if k.Kind == api.Charge {
			line += " " + strconv.Itoa(k.Tons)
		}
		l = append(l, line)
	}
	return l
}

// TestAlwaysHappened checks after each line, taken or not, that the books can have happened.
func TestAlwaysHappened(t *testing.T) {
	d := newDice(2)
	for range 150 {
		desk := newDesk(t, smallWorks())
		m := model{works: smallWorks(), notes: map[int]note{}}
		for range 60 {
			line, _ := m.change(d)
			before := desk.Books()
			reply := answer(t, desk, line)
			b := desk.Books()
			if !happened(b) {
				t.Fatalf("%q, after which the books are %v", line, b)
			}
			if strings.HasPrefix(reply, "error") && !sameBooks(b, before) {
				t.Fatalf("%q: %q, but the books %v became %v", line, reply, before, b)
			}
		}
	}
}

// questions returns lines that change nothing, whatever their replies are.
func questions() []string {
	l := []string{"left", "peak", "plan", "yield 0 0 0", "yield 0 1 1", "yield 1 3 3", "gas 0 40", "gas 3 9"}
	for retort := range 8 {
		l = append(l, "soonest "+strconv.Itoa(retort))
	}
	return l
}

func answers(t *testing.T, d *foreman.Desk, lines []string) []string {
	t.Helper()
	var l []string
	for _, line := range lines {
		l = append(l, answer(t, d, line))
	}
	return l
}

// TestAsIfNeverWas checks that nothing of what was struck, amended or refused is left: a new desk that is given only what stands has the same books, and the same answers.
func TestAsIfNeverWas(t *testing.T) {
	d := newDice(3)
	for range 200 {
		desk, _ := anyDesk(t, d, 70)
		other := deskWith(t, smallWorks(), linesOf(desk.Books())...)
		wantBooks(t, "a new desk", other, desk.Books())
		if a, b := answers(t, desk, questions()), answers(t, other, questions()); !slices.Equal(a, b) {
			t.Fatalf("the answers are %v; of a new desk %v", a, b)
		}
	}
}

// TestAmendedBack amends an entry, and then back.
func TestAmendedBack(t *testing.T) {
	d := newDice(4)
	amended := 0
	for range 300 {
		m := model{works: smallWorks(), notes: map[int]note{}}
		desk := newDesk(t, smallWorks())
		for range 40 {
			line, want := m.change(d)
			play(t, desk, line, want)
		}
		all := append(questions(), "entries")
		before, was := desk.Books(), answers(t, desk, all)
		for number, n := range m.notes {
			k := strconv.Itoa(number)
			if _, e := desk.Line("amend " + k + " " + anyNote(d).line()); e != api.OK {
				continue
			}
			amended++
			play(t, desk, "amend "+k+" "+n.line(), "amended "+k)
		}
		wantBooks(t, "amended back", desk, before)
		if is := answers(t, desk, all); !slices.Equal(is, was) {
			t.Fatalf("the answers are %v; they were %v", is, was)
		}
	}
	if amended < 100 {
		t.Errorf("only %d entries were amended", amended)
	}
}

// TestAnyOrder checks that entries of different hours leave the same books in whichever order they come, if all are taken.
func TestAnyOrder(t *testing.T) {
	d := newDice(5)
	taken := 0
	for range 3000 {
		desk, _ := anyDesk(t, d, 30)
		var lines []string
		hours := map[string]bool{}
		for _, line := range linesOf(desk.Books()) {
			if hour := strings.Fields(line)[1]; !hours[hour] {
				hours[hour] = true
				lines = append(lines, line)
			}
		}
		first, second := newDesk(t, smallWorks()), newDesk(t, smallWorks())
		all := true
		for _, line := range lines {
			_, e := first.Line(line)
			all = all && e == api.OK
		}
		for i := range lines {
			k := i + d.roll(min(3, len(lines)-i))
			lines[i], lines[k] = lines[k], lines[i]
			_, e := second.Line(lines[i])
			all = all && e == api.OK
		}
		if all && len(lines) > 3 {
			taken++
			wantBooks(t, strings.Join(lines, ", "), second, first.Books())
		}
	}
	if taken < 100 {
		t.Errorf("all entries were taken in only %d orders", taken)
	}
}

// TestQuestionsChangeNothing checks that what is asked between the lines makes no difference.
func TestQuestionsChangeNothing(t *testing.T) {
	d := newDice(6)
	for range 60 {
		desk, lines := anyDesk(t, d, 40)
		other := newDesk(t, smallWorks())
		for _, line := range lines {
			answer(t, other, line)
			answers(t, other, append(questions(), "entries", "yield 9 9 9", "gas 2 1", "soonest 8", "left 1", "x", ""))
		}
		wantBooks(t, "with questions", other, desk.Books())
		play(t, other, "entries", answer(t, desk, "entries"))
	}
}

// TestPlayedAgain checks that a script has the replies of its lines, and the same ones when it is played again.
func TestPlayedAgain(t *testing.T) {
	d := newDice(7)
	for range 60 {
		_, lines := anyDesk(t, d, 60)
		lines = append(lines, questions()...)
		want := ""
		for _, reply := range answers(t, newDesk(t, smallWorks()), lines) {
			want += reply + "\n"
		}
		for range 2 {
			if got, e := foreman.Run(smallWorks(), strings.Join(lines, "\n")+"\n"); got != want || e != api.OK {
				t.Fatalf("Run = %q, error %d; want %q", got, e, want)
			}
		}
	}
}

// TestDesksAreApart checks that desks share nothing.
func TestDesksAreApart(t *testing.T) {
	w := works()
	a, b := newDesk(t, w), newDesk(t, w)
	play(t, a, "arrive 1 0 5", "entry 1", "draw 1 5", "entry 2")
	play(t, b, "entries", "entries", "left", "left", "arrive 2 1 3", "entry 1", "strike 2", "error 4")
	play(t, a, "entries", "entries 1 2", "left", "left")
	play(t, b, "left", "left 0 3")
}
