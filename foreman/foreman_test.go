package foreman_test

import (
	"reflect"
	"slices"
	"strconv"
	"strings"
	"testing"

	"gasworks/api"
	"gasworks/foreman"
)

func span(lo, hi int) api.Span { return api.Span{Lo: lo, Hi: hi} }

// works returns those of the chapter's examples.
func works() api.Works {
	return api.Works{
		Coals: []api.Coal{
			{Gas: span(400, 500), Tar: span(5, 6), Sulphur: span(10, 12), Coke: span(60, 70)},
			{Gas: span(600, 650), Tar: span(8, 9), Sulphur: span(30, 40), Coke: span(50, 55)},
		},
		House: api.House{Curve: []api.Span{span(10, 12), span(20, 25), span(5, 8)}, Least: 2, Runs: 2, Scurf: 3, Coolings: 1, Gang: 2},
		Goods: 3,
		Stills: []api.Still{
			{In: 0, Takes: 6, Out: []api.Span{{}, span(2, 3), span(1, 2)}, Pay: 5, Most: 4},
			{In: 1, Takes: 4, Out: []api.Span{{}, {}, span(3, 3)}, Pay: 1, Most: 2},
		},
		Sales: []api.Sale{{Good: 2, Most: 5, Price: 9}, {Good: 1, Most: 10, Price: 4}, {Good: 0, Most: 30, Price: 2}},
	}
}

// changed returns the works of the examples with a change.
func changed(change func(w *api.Works)) api.Works {
	w := works()
	change(&w)
	return w
}

func newDesk(t *testing.T, w api.Works) *foreman.Desk {
	t.Helper()
	d, e := foreman.New(w)
	if d == nil || e != api.OK {
		t.Fatalf("New has the error %d", e)
	}
	return d
}

// answer does a line, and returns the reply, or the error as a script has it.
func answer(t *testing.T, d *foreman.Desk, line string) string {
	t.Helper()
	reply, e := d.Line(line)
	if e == api.OK {
		return reply
	}
	if reply != "" {
		t.Errorf("%q: the reply %q with the error %d", line, reply, e)
	}
	return "error " + strconv.Itoa(int(e))
}

// play does lines, of which each is followed by the reply that it is to have.
func play(t *testing.T, d *foreman.Desk, l ...string) {
	t.Helper()
	for i := 0; i < len(l); i += 2 {
		if got := answer(t, d, l[i]); got != l[i+1] {
			t.Errorf("%q: %q; want %q", l[i], got, l[i+1])
		}
	}
}

// deskWith returns a desk that has taken these lines.
func deskWith(t *testing.T, w api.Works, lines ...string) *foreman.Desk {
	t.Helper()
	d := newDesk(t, w)
	for _, line := range lines {
		if reply, e := d.Line(line); e != api.OK {
			t.Fatalf("%q: %q, error %d", line, reply, e)
		}
	}
	return d
}

func sameBooks(a, b api.Books) bool {
	return slices.Equal(a.Moves, b.Moves) && slices.Equal(a.Stokes, b.Stokes)
}

func wantBooks(t *testing.T, name string, d *foreman.Desk, want api.Books) {
	t.Helper()
	if got := d.Books(); !sameBooks(got, want) {
		t.Errorf("%s: the books are %v; want %v", name, got, want)
	}
}

// example returns the lines of the chapter's example, each with its reply.
func example() []string {
	return []string{
		"arrive 5 0 30", "entry 1",
		"charge 8 0 4", "error 10",
		"draw 8 20", "entry 2",
		"charge 8 0 4", "entry 3",
		"arrive 5 1 20", "entry 4",
		"left", "left 0 30",
		"empty 10 0", "entry 5",
		"charge 9 0 3", "error 6",
		"charge 10 0 16", "entry 6",
		"strike 2", "error 10",
		"amend 2 draw 8 25", "amended 2",
		"amend 3 charge 9 0 4", "error 7",
		"gas 8 9", "gas 120 148",
		"yield 0 0 1", "yield 125 210",
		"peak", "peak 11 320 400",
		"soonest 0", "soonest 15",
		"strike 5", "error 6",
		"strike 4", "struck 4",
		"entries", "entries 1 2 3 5 6",
		"left", "left 0 5",
	}
}

func TestExample(t *testing.T) {
	d := newDesk(t, works())
	play(t, d, example()...)
	wantBooks(t, "the example", d, api.Books{
		Moves:  []api.Move{{Hour: 5, Coal: 0, Tons: 30}, {Hour: 8, Coal: api.Drawn, Tons: 25}},
		Stokes: []api.Stoke{{Hour: 8, Kind: api.Charge, Tons: 4}, {Hour: 10, Kind: api.Empty}, {Hour: 10, Kind: api.Charge, Tons: 16}},
	})
}

func TestExampleAsScript(t *testing.T) {
	script, want := "", ""
	for l := range slices.Chunk(example(), 2) {
		script += l[0] + "\n"
		want += l[1] + "\n"
	}
	for range 2 {
		if got, e := foreman.Run(works(), script); got != want || e != api.OK {
			t.Errorf("Run = %q, error %d; want %q", got, e, want)
		}
	}
}

// TestMoves checks what each line about coal enters.
func TestMoves(t *testing.T) {
	d := newDesk(t, works())
	wantBooks(t, "at first", d, api.Books{})
	play(t, d, "entries", "entries", "arrive 7 1 12", "entry 1", "draw 9 3", "entry 2", "arrive 0 0 1048576", "entry 3", "draw 1048576 1", "entry 4")
	wantBooks(t, "moves", d, api.Books{Moves: []api.Move{
		{Hour: 0, Coal: 0, Tons: 1 << 20}, {Hour: 7, Coal: 1, Tons: 12}, {Hour: 9, Coal: api.Drawn, Tons: 3}, {Hour: 1 << 20, Coal: api.Drawn, Tons: 1},
	}})
}

// TestStokes checks what each line about retorts enters.
func TestStokes(t *testing.T) {
	d := deskWith(t, works(), "arrive 0 0 50", "draw 0 50")
	play(t, d, "charge 3 7 6", "entry 3", "empty 5 7", "entry 4", "scour 6 7", "entry 5", "out 9 7", "entry 6", "light 10 7", "entry 7", "entries", "entries 1 2 3 4 5 6 7")
	want := []api.Stoke{
		{Hour: 3, Retort: 7, Kind: api.Charge, Tons: 6}, {Hour: 5, Retort: 7, Kind: api.Empty}, {Hour: 6, Retort: 7, Kind: api.Scour},
		{Hour: 9, Retort: 7, Kind: api.LetOut}, {Hour: 10, Retort: 7, Kind: api.LightUp},
	}
	if got := d.Books().Stokes; !slices.Equal(got, want) {
		t.Errorf("the stokes are %v; want %v", got, want)
	}
}

// TestOrderOfBooks checks that books go by hours, and in an hour by the numbers of the entries.
func TestOrderOfBooks(t *testing.T) {
	w := changed(func(w *api.Works) { w.House.Gang = 9 })
	d := deskWith(t, w, "arrive 5 0 9", "scour 7 2", "arrive 3 1 8", "scour 4 5", "arrive 5 1 7", "scour 7 1", "arrive 3 0 6", "scour 4 3")
	play(t, d, "amend 2 scour 7 4", "amended 2", "amend 1 arrive 5 0 10", "amended 1", "amend 4 scour 7 5", "amended 4")
	wantBooks(t, "late entries", d, api.Books{
		Moves:  []api.Move{{Hour: 3, Coal: 1, Tons: 8}, {Hour: 3, Coal: 0, Tons: 6}, {Hour: 5, Coal: 0, Tons: 10}, {Hour: 5, Coal: 1, Tons: 7}},
		Stokes: []api.Stoke{{Hour: 4, Retort: 3, Kind: api.Scour}, {Hour: 7, Retort: 4, Kind: api.Scour}, {Hour: 7, Retort: 5, Kind: api.Scour}, {Hour: 7, Retort: 1, Kind: api.Scour}},
	})
	// What was entered first comes first in its hour, whatever was amended: here the draw would come before its coal.
	d = deskWith(t, w, "arrive 3 0 5", "arrive 5 0 5")
	play(t, d, "strike 1", "struck 1", "draw 5 5", "entry 3", "arrive 1 0 1", "entry 4", "amend 2 arrive 6 0 5", "error 10", "amend 4 arrive 5 1 1", "amended 4")
	d = deskWith(t, w, "arrive 3 0 5", "arrive 5 0 5")
	play(t, d, "amend 1 draw 5 5", "error 10", "amend 1 draw 6 5", "amended 1", "amend 2 arrive 6 0 5", "error 10")
}

// TestNumbers checks that no number is given again, and none to a line that is refused.
func TestNumbers(t *testing.T) {
	d := newDesk(t, works())
	play(t, d,
		"arrive 1 0 5", "entry 1", "arrive 1 9 5", "error 1", "draw 9 9", "error 10", "empty 9 9", "error 1", "left 9", "error 8",
		"arrive 2 0 5", "entry 2", "strike 2", "struck 2", "entries", "entries 1",
		"arrive 3 0 5", "entry 3", "strike 2", "error 4", "amend 2 arrive 2 0 5", "error 4", "strike 1", "struck 1",
		"entries", "entries 3", "strike 3", "struck 3", "entries", "entries", "arrive 1 0 5", "entry 4", "strike 4", "struck 4",
		"strike 5", "error 4", "strike 0", "error 4", "arrive 1 0 5", "entry 5",
	)
}

// TestStrike checks that an entry is struck only where the books are right without it.
func TestStrike(t *testing.T) {
	d := deskWith(t, works(), "arrive 1 0 5", "draw 2 5", "charge 3 0 4", "empty 5 0", "charge 5 0 1")
	play(t, d, "strike 1", "error 10", "strike 2", "error 10", "strike 3", "error 6", "strike 4", "error 6")
	play(t, d, "strike 5", "struck 5", "strike 4", "struck 4", "strike 3", "struck 3", "strike 2", "struck 2", "strike 1", "struck 1", "entries", "entries")
	wantBooks(t, "all struck", d, api.Books{})
}

// TestAmend checks amends, also those that make a stoke of a move, or a move of a stoke.
func TestAmend(t *testing.T) {
	d := deskWith(t, works(), "arrive 1 0 5", "draw 2 5", "charge 3 0 4", "arrive 4 1 6")
	play(t, d,
		"amend 4 scour 4 2", "amended 4", "left", "left", "amend 1 arrive 1 1 3", "error 10", "amend 1 arrive 2 1 7", "amended 1",
		"amend 3 charge 3 0 6", "error 10", "amend 2 draw 3 6", "amended 2", "amend 3 charge 3 0 6", "amended 3", "amend 3 charge 2 0 1", "error 10",
		"amend 3 draw 4 1", "amended 3", "amend 4 charge 3 1 7", "error 10", "amend 4 charge 4 1 7", "amended 4", "amend 4 light 4 1", "error 6", "amend 4 out 4 1", "amended 4",
		"entries", "entries 1 2 3 4", "amend 5 arrive 0 0 1", "error 4", "amend 0 arrive 0 0 1", "error 4",
	)
	wantBooks(t, "amended", d, api.Books{
		Moves:  []api.Move{{Hour: 2, Coal: 1, Tons: 7}, {Hour: 3, Coal: api.Drawn, Tons: 6}, {Hour: 4, Coal: api.Drawn, Tons: 1}},
		Stokes: []api.Stoke{{Hour: 4, Retort: 1, Kind: api.LetOut}},
	})
}

// TestAmendAsEntry checks that each line is taken in an amend just where it would be taken as a new entry.
func TestAmendAsEntry(t *testing.T) {
	before := []string{"arrive 0 0 5", "draw 0 5", "charge 1 3 1"}
	for _, line := range []string{
		"arrive 9 0 2", "arrive 9 2 2", "draw 9 0", "draw 9 1", "charge 9 3 1", "charge 9 4 4", "charge 9 4 5", "empty 2 3", "empty 9 3", "empty 9 4",
		"scour 9 3", "scour 9 4", "scour 9 8", "out 9 3", "out 9 4", "light 9 3", "light 9 4",
	} {
		entered := answer(t, deskWith(t, works(), before...), line)
		d := deskWith(t, works(), append(slices.Clone(before), "scour 1 5")...)
		play(t, d, "amend 4 "+line, strings.Replace(entered, "entry", "amended", 1))
	}
}

// TestCoalByHours checks that no more is charged than drawn by the end of each hour.
func TestCoalByHours(t *testing.T) {
	w := changed(func(w *api.Works) { w.House.Gang = 9 })
	d := deskWith(t, w, "arrive 0 0 100", "draw 5 4", "draw 8 4", "scour 1 7")
	play(t, d,
		"charge 4 0 1", "error 10", "charge 5 0 5", "error 10", "charge 5 0 4", "entry 5", "charge 7 1 1", "error 10",
		"charge 8 1 5", "error 10", "charge 8 1 3", "entry 6", "charge 8 2 2", "error 10", "charge 8 2 1", "entry 7", "charge 1048576 3 1", "error 10",
		"charge 5 3 1", "error 10", // as much was drawn at last, but not by then
		"draw 8 1", "entry 8", "charge 6 3 1", "error 10", "charge 8 3 1", "entry 9",
		"strike 8", "error 10", "amend 8 draw 9 1", "error 10", "amend 8 draw 8 2", "amended 8", "amend 2 draw 6 4", "error 10", "amend 2 draw 0 4", "amended 2",
	)
}

// TestLimits fills the books.
func TestLimits(t *testing.T) {
	d := newDesk(t, works())
	for i := range 32 {
		play(t, d, "arrive 1 0 1", "entry "+strconv.Itoa(i+1))
	}
	play(t, d, "arrive 1 0 1", "error 1", "draw 1 1", "error 1", "amend 32 draw 1 1", "amended 32")
	for i := range 48 {
		play(t, d, "scour "+strconv.Itoa(3*i)+" 4", "entry "+strconv.Itoa(i+33))
	}
	play(t, d, "scour 999 4", "error 3", "amend 1 scour 999 4", "error 3", "amend 80 arrive 1 0 1", "error 1", "strike 80", "struck 80", "scour 999 4", "entry 81", "scour 999 5", "error 3",
		"strike 2", "struck 2", "arrive 1 0 1", "entry 82", "arrive 1 0 1", "error 1")
	if b := d.Books(); len(b.Moves) != 32 || len(b.Stokes) != 48 {
		t.Errorf("there are %d moves and %d stokes", len(b.Moves), len(b.Stokes))
	}
}

func TestLeft(t *testing.T) {
	d := newDesk(t, works())
	play(t, d, "left", "left", "arrive 5 0 3", "entry 1", "left", "left 0 3", "arrive 6 1 4", "entry 2", "arrive 5 1 2", "entry 3", "left", "left 0 5 1 4",
		"draw 9 6", "entry 4", "left", "left 1 3", "draw 5 1", "entry 5", "left", "left 1 2", "draw 6 2", "entry 6", "left", "left")
}

func TestYield(t *testing.T) {
	d := newDesk(t, works())
	play(t, d, "yield 0 0 0", "error 2", "arrive 5 0 30", "entry 1", "arrive 5 1 20", "entry 2", "yield 0 0 0", "error 2", "draw 10 20", "entry 3", "arrive 9 1 15", "entry 4", "draw 8 40", "entry 5",
		"yield 0 0 0", "yield 18000 23000", "yield 1 1 2", "yield 400 800", "yield 0 1 1", "yield 390 450", "yield 0 0 3", "yield 2200 2650",
		"yield 1 0 0", "error 2", "yield 0 2 0", "error 2", "yield 2 2 0", "error 2", "yield 0 1 4", "error 2", "yield 9999999999999 9999999999999 0", "error 2")
}

func TestGas(t *testing.T) {
	d := deskWith(t, works(), "arrive 0 0 50", "draw 0 50")
	play(t, d, "gas 0 1048576", "gas 0 0", "peak", "peak 0 0 0",
		"charge 12 0 3", "entry 3", "charge 10 0 4", "error 6", "strike 3", "struck 3", "charge 10 0 4", "entry 4", "charge 10 1 2", "entry 5", "empty 12 0", "entry 6", "charge 12 0 3", "entry 7", "empty 14 0", "entry 8",
		"gas 10 10", "gas 60 72", "gas 12 12", "gas 40 52", "gas 10 20", "gas 280 349", "peak", "peak 11 120 150",
		"gas 11 10", "error 2", "gas 0 1048577", "error 2", "gas 1048577 1048577", "error 2", "gas 9999999999999 9999999999999", "error 2")
}

func TestSoonest(t *testing.T) {
	d := deskWith(t, works(), "arrive 0 0 50", "draw 0 50")
	play(t, d, "soonest 0", "soonest 0", "soonest 7", "soonest 0", "soonest 8", "error 2", "soonest 9999999999999", "error 2",
		"charge 10 0 4", "entry 3", "charge 10 1 2", "entry 4", "empty 12 0", "entry 5", "charge 12 0 3", "entry 6", "empty 14 0", "entry 7",
		"soonest 0", "soonest 17", "soonest 1", "soonest 15", "soonest 2", "soonest 14",
		"out 14 2", "entry 8", "soonest 2", "error 6", "light 15 2", "entry 9", "soonest 2", "soonest 15", "out 16 2", "entry 10", "light 16 2", "entry 11", "soonest 2", "error 6",
		"charge 1048574 3 1", "entry 12", "soonest 3", "soonest 1048576", "amend 12 charge 1048575 3 1", "amended 12", "soonest 3", "error 7")
}

func TestPlan(t *testing.T) {
	d := newDesk(t, works())
	play(t, d, "plan", "plan 0 0 0", "arrive 1 0 4", "entry 1", "plan", "plan 0 0 0", "draw 2 4", "entry 2", "plan", "plan 0 2 123")
	// The tar alone, 20 of it, and no pitch but what comes of it.
	tarOnly := changed(func(w *api.Works) { w.Coals = []api.Coal{{Tar: span(20, 99)}} })
	play(t, deskWith(t, tarOnly, "arrive 1 0 4", "draw 2 1"), "plan", "plan 2 1 50")
	// All draws count, together: they leave nothing, and so no coal is counted twice.
	both := changed(func(w *api.Works) {
		w.Coals = []api.Coal{{Tar: span(2, 2), Coke: span(30, 40)}, {Tar: span(5, 9), Coke: span(10, 20)}}
		w.Stills, w.Sales = nil, []api.Sale{{Good: 0, Most: 1000, Price: 1}, {Good: 1, Most: 1000, Price: 1}, {Good: 2, Most: 1000, Price: 1}}
	})
	play(t, deskWith(t, both, "arrive 1 0 4", "arrive 1 1 4", "draw 2 4", "draw 3 4"), "plan", "plan 188",
		"yield 0 0 1", "yield 8 36", "yield 1 1 1", "yield 8 36", "yield 0 1 1", "yield 28 44", "yield 0 1 3", "yield 160 240")
	two := changed(func(w *api.Works) {
		w.Goods, w.Coals = 2, []api.Coal{{Gas: span(500, 500), Tar: span(1, 1), Sulphur: span(70, 70), Coke: span(4, 9)}}
		w.Stills, w.Sales = nil, []api.Sale{{Good: 1, Most: 1000, Price: 10}, {Good: 0, Most: 1000, Price: 1}}
	})
	play(t, deskWith(t, two, "arrive 1 0 4", "draw 2 3"), "plan", "plan 123")
}

// TestPlanOfTooMuch checks the error of the plan, where the works have more tar, or coke, than stills can have.
func TestPlanOfTooMuch(t *testing.T) {
	for name, c := range map[string]struct {
		coal api.Coal
		want string
	}{
		"as much tar as can be":  {api.Coal{Tar: span(1, 2)}, "plan 1048576"},
		"too much tar":           {api.Coal{Tar: span(2, 2)}, "error 1"},
		"as much coke as can be": {api.Coal{Coke: span(1, 2)}, "plan 0"},
		"too much coke":          {api.Coal{Coke: span(2, 2)}, "error 1"},
	} {
		w := changed(func(w *api.Works) {
			w.Coals = []api.Coal{c.coal}
			w.Stills, w.Sales = nil, []api.Sale{{Good: 0, Most: 1 << 20, Price: 1}}
		})
		d := deskWith(t, w, "arrive 1 0 1048576", "draw 2 1048576")
		if got := answer(t, d, "plan"); got != c.want {
			t.Errorf("%s: %q; want %q", name, got, c.want)
		}
		play(t, d, "entries", "entries 1 2")
	}
}

// TestMemory checks that a desk keeps nothing of the works, and gives nothing of its own away.
func TestMemory(t *testing.T) {
	w := works()
	d := newDesk(t, w)
	if !reflect.DeepEqual(w, works()) {
		t.Error("New changed the works")
	}
	w.Coals[0].Tar, w.Coals[1].Tar = span(9, 1), span(9, 1)
	clear(w.Coals)
	clear(w.House.Curve)
	clear(w.Stills[0].Out)
	clear(w.Stills[1].Out)
	clear(w.Stills)
	clear(w.Sales)
	play(t, d, example()...)
	play(t, d, "plan", "plan 0 2 143")
	b := d.Books()
	clear(b.Moves[:cap(b.Moves)])
	clear(b.Stokes[:cap(b.Stokes)])
	play(t, d, "left", "left 0 5", "entries", "entries 1 2 3 5 6", "peak", "peak 11 320 400")
	before := d.Books()
	play(t, d, "strike 6", "struck 6", "amend 1 arrive 4 0 99", "amended 1")
	if before.Moves[0].Tons != 30 || len(before.Stokes) != 3 {
		t.Errorf("books that were given out became %v", before)
	}
}

// TestRun checks how a script is divided into lines.
func TestRun(t *testing.T) {
	for script, want := range map[string]string{
		"":                                  "",
		"\n":                                "error 8\n",
		"\n\n\n":                            "error 8\nerror 8\nerror 8\n",
		"left\n":                            "left\n",
		"arrive 1 0 1\nleft\n":              "entry 1\nleft 0 1\n",
		"left\r\nleft\n":                    "error 8\nleft\n",
		"left\n \nentries\n":                "left\nerror 8\nentries\n",
		strings.Repeat("x", 120) + "\n":     "error 8\n",
		strings.Repeat("x", 121) + "\n":     "error 3\n",
		"left\x00\nstrike 1\ndraw 1 1\n":    "error 8\nerror 4\nerror 10\n",
		strings.Repeat("left 1\n", 1000):    strings.Repeat("error 8\n", 1000),
		strings.Repeat("\n", 1<<17):         strings.Repeat("error 8\n", 1<<17),
		strings.Repeat("x", 1<<17-1) + "\n": "error 3\n",
	} {
		if got, e := foreman.Run(works(), script); got != want || e != api.OK {
			t.Errorf("Run of %d bytes = %.80q, error %d; want %.80q", len(script), got, e, want)
		}
	}
}
