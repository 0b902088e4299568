package foreman_test

import (
	"math"
	"strings"
	"testing"

	"gasworks/api"
	"gasworks/foreman"
)

// lines returns a line of each verb, all of which the desk of desk takes.
func lines() []string {
	return []string{
		"arrive 6 0 5", "draw 6 1", "charge 6 0 1", "empty 6 1", "scour 6 2", "out 6 2", "light 6 3", "strike 4", "amend 2 draw 2 4", "amend 4 scour 3 4",
		"entries", "left", "yield 0 0 0", "gas 0 9", "peak", "soonest 1", "plan",
	}
}

// desk returns one with some entries.
func desk(t *testing.T) *foreman.Desk {
	t.Helper()
	return deskWith(t, works(), "arrive 1 0 9", "draw 1 3", "charge 2 1 2", "out 3 3")
}

func wantError(t *testing.T, line string, want api.Errno) {
	t.Helper()
	d := desk(t)
	before := d.Books()
	if reply, e := d.Line(line); reply != "" || e != want {
		t.Errorf("%.80q: %q, error %d; want error %d", line, reply, e, want)
	}
	wantBooks(t, line, d, before)
	play(t, d, "entries", "entries 1 2 3 4", "scour 3 2", "entry 5")
}

func TestLinesAreTaken(t *testing.T) {
	for _, line := range lines() {
		if reply, e := desk(t).Line(line); reply == "" || e != api.OK {
			t.Errorf("%q: %q, error %d", line, reply, e)
		}
	}
}

// TestFormOfWords changes lines that are right.
func TestFormOfWords(t *testing.T) {
	for _, line := range lines() {
		for _, wrong := range []string{
			" " + line, line + " ", line + "\n", line + "\r", line + "\x00", "\n" + line, line + " 1", line + " 0", line + " x", line + " left",
			strings.ToUpper(line), strings.ToUpper(line[:1]) + line[1:], line[1:], "x" + line, line + "x", line + ".", line + ",",
			"amend " + line, "amend 4 " + line + " 1", "amend x " + line, "amend 4  " + line, "amend  4 " + line, "amend 4" + line, "amend 4 4 " + line, "Amend 4 " + line,
			"strike " + line, line + " " + line, line + "\n" + line,
		} {
			wantError(t, wrong, api.ErrForm)
		}
		if at := strings.LastIndex(line, " "); at > 0 {
			for _, wrong := range []string{
				line[:at], line[:at+1], line[:at] + line[at+1:], strings.Replace(line, " ", "  ", 1), strings.Replace(line, " ", "\t", 1), strings.ReplaceAll(line, " ", ","),
				strings.Replace(line, " ", "\u00a0", 1), line[:at] + "  " + line[at+1:],
			} {
				wantError(t, wrong, api.ErrForm)
			}
		}
	}
	for _, wrong := range []string{"", " ", "  ", "\n", "x", "1", "1 2", "entry 1 0 3", "struck 4", "amended 4", "error 1", "let 6 2", "lightup 6 3", "hours", "amend", "amend 4", "amend 4 ", "\xff", "left\xff", "\u2003left"} {
		wantError(t, wrong, api.ErrForm)
	}
}

// TestFormOfAmends checks that nothing but an entry line stands in an amend.
func TestFormOfAmends(t *testing.T) {
	for _, line := range []string{"strike 4", "amend 4 scour 3 4", "amend 4", "entries", "left", "yield 0 0 0", "gas 0 9", "peak", "soonest 1", "plan"} {
		wantError(t, "amend 4 "+line, api.ErrForm)
		wantError(t, "amend 99 "+line, api.ErrForm)
	}
}

// TestFormOfNumbers puts words that are no numbers into each place of a number.
func TestFormOfNumbers(t *testing.T) {
	for _, line := range lines() {
		words := strings.Split(line, " ")
		for i, word := range words {
			if word[0] < '0' || word[0] > '9' {
				continue
			}
			for _, wrong := range []string{
				"", "x", "-", "+", "-1", "-0", "+1", "+0", "00", "01", "0" + word, word + "x", "x" + word, word + "\n", "1_0", "0x1", "1e3", "1.0", "1,0", "٣", "１", "½", "inf", "--1",
				"12345678901234", "99999999999999", "00000000000001", "9223372036854775808", "18446744073709551616", strings.Repeat("9", 40),
			} {
				changed := append([]string{}, words...)
				changed[i] = wrong
				wantError(t, strings.Join(changed, " "), api.ErrForm)
			}
		}
	}
}

// TestGreatNumbers checks that numbers of as many figures as there can be are read: what they say is wrong, not their form.
func TestGreatNumbers(t *testing.T) {
	for line, want := range map[string]api.Errno{
		"arrive # 0 1": api.ErrArg, "arrive 1 # 1": api.ErrArg, "arrive 1 0 #": api.ErrArg, "draw # 1": api.ErrArg, "draw 1 #": api.ErrArg,
		"charge # 0 1": api.ErrArg, "charge 1 # 1": api.ErrArg, "charge 1 0 #": api.ErrArg, "empty # 1": api.ErrArg, "empty 1 #": api.ErrArg,
		"scour # 1": api.ErrArg, "scour 1 #": api.ErrArg, "out # 1": api.ErrArg, "out 1 #": api.ErrArg, "light # 3": api.ErrArg, "light 1 #": api.ErrArg,
		"strike #": api.ErrNone, "amend # draw 1 1": api.ErrNone, "amend 4 draw # 1": api.ErrArg, "amend 4 scour 1 #": api.ErrArg,
		"yield # # 0": api.ErrRange, "yield 0 # 0": api.ErrRange, "yield 0 0 #": api.ErrRange, "gas # #": api.ErrRange, "gas 0 #": api.ErrRange, "soonest #": api.ErrRange,
	} {
		for _, number := range []string{"9999999999999", "1234567890123", "4294967296", "4294967297"} {
			wantError(t, strings.ReplaceAll(line, "#", number), want)
		}
	}
}

// TestEntriesBeyondTheirLimits sets each number of an entry beyond its limits.
func TestEntriesBeyondTheirLimits(t *testing.T) {
	for _, line := range []string{
		"arrive 1048577 0 1", "arrive 1 2 1", "arrive 1 0 0", "arrive 1 0 1048577", "draw 1048577 1", "draw 1 0", "draw 1 1048577",
		"charge 1048577 0 1", "charge 6 8 1", "charge 6 0 0", "charge 6 0 101", "empty 1048577 1", "empty 6 8", "scour 1048577 2", "scour 6 8", "out 1048577 2", "out 6 8", "light 1048577 3", "light 6 8",
	} {
		wantError(t, line, api.ErrArg)
		wantError(t, "amend 4 "+line, api.ErrArg)
		wantError(t, "amend 99 "+line, api.ErrNone)
	}
}

// TestOrderOfErrors checks lines with several errors.
func TestOrderOfErrors(t *testing.T) {
	for line, want := range map[string]api.Errno{
		strings.Repeat("x", 121):                    api.ErrLong,
		"left" + strings.Repeat(" ", 117):           api.ErrLong,
		"amend 99 draw " + strings.Repeat("9", 107): api.ErrLong,
		strings.Repeat("x", 1<<20):                  api.ErrLong,
		strings.Repeat("x", 120):                    api.ErrForm,
		"left" + strings.Repeat(" ", 116):           api.ErrForm,
		"amend 99 draw 0":                           api.ErrForm,
		"amend 99 draw 0 0":                         api.ErrNone,
		"amend 99 charge 0 9 0":                     api.ErrNone,
		"amend 1 empty 0 8":                         api.ErrShort, // the error of the coal, before that of the retorts
		"amend 1 draw 0 0":                          api.ErrArg,
		"charge 5 1 100":                            api.ErrState, // the error of the retorts, before that of the books
		"charge 1 1 100":                            api.ErrState,
		"charge 6 9 100":                            api.ErrArg,
		"amend 2 empty 0 0":                         api.ErrState, // without the draw there is no coal to charge either
		"amend 2 scour 0 0":                         api.ErrShort,
		"amend 2 draw 1 10":                         api.ErrShort,
		"amend 2 draw 1 1":                          api.ErrShort,
		"yield 1 0 9":                               api.ErrRange,
		"amend 3 empty 3 1":                         api.ErrState,
		"amend 3 charge 4 3 1":                      api.ErrState,
		"strike 2":                                  api.ErrShort,
		"empty 3 1":                                 api.ErrOrder,
	} {
		wantError(t, line, want)
	}
}

// TestErrorsOfRetorts checks that the errors of the retorts come through.
func TestErrorsOfRetorts(t *testing.T) {
	d := deskWith(t, works(), "arrive 0 0 50", "draw 0 50", "charge 1 0 1", "empty 3 0", "charge 3 0 1", "empty 5 0")
	play(t, d, "charge 5 0 1", "error 11", "empty 5 0", "error 6", "scour 3 1", "error 9", "scour 4 1", "entry 7", "charge 6 1 1", "error 7", "light 9 0", "error 6",
		"out 9 0", "entry 8", "light 10 0", "entry 9", "strike 8", "error 6", "amend 9 light 9 0", "amended 9")
}

func TestLineOfNoDesk(t *testing.T) {
	var none *foreman.Desk
	made := desk(t)
	other := *made
	for name, d := range map[string]*foreman.Desk{"nil": none, "zero": {}, "new": new(foreman.Desk), "a copy": &other} {
		for _, line := range []string{"left", "entries", "arrive 1 0 1", "", "x", strings.Repeat("x", 121)} {
			if reply, e := d.Line(line); reply != "" || e != api.ErrNil {
				t.Errorf("%s: %.20q: %q, error %d", name, line, reply, e)
			}
		}
		if b := d.Books(); len(b.Moves)+len(b.Stokes) > 0 {
			t.Errorf("%s: the books are %v", name, b)
		}
	}
	play(t, made, "entries", "entries 1 2 3 4", "strike 4", "struck 4")
}

// wantNoWorks checks that works are refused.
func wantNoWorks(t *testing.T, name string, w api.Works) {
	t.Helper()
	if d, e := foreman.New(w); d != nil || e != api.ErrArg {
		t.Errorf("%s: New has the error %d", name, e)
	}
	for _, script := range []string{"", "left\n", "x\n"} {
		if replies, e := foreman.Run(w, script); replies != "" || e != api.ErrArg {
			t.Errorf("%s: Run = %q, error %d", name, replies, e)
		}
	}
	for script, want := range map[string]api.Errno{"left": api.ErrForm, strings.Repeat("x", 1<<17+1): api.ErrLong} {
		if replies, e := foreman.Run(w, script); replies != "" || e != want {
			t.Errorf("%s: Run = %q, error %d; want error %d", name, replies, e, want)
		}
	}
}

func TestWorksThatAreNotValid(t *testing.T) {
	wantNoWorks(t, "no works", api.Works{})
	for name, change := range map[string]func(w *api.Works){
		"no coals":           func(w *api.Works) { w.Coals = nil },
		"too many coals":     func(w *api.Works) { w.Coals = make([]api.Coal, 7) },
		"gas":                func(w *api.Works) { w.Coals[0].Gas = span(2, 1) },
		"tar":                func(w *api.Works) { w.Coals[1].Tar = span(-1, 1) },
		"sulphur":            func(w *api.Works) { w.Coals[1].Sulphur = span(0, 100001) },
		"coke":               func(w *api.Works) { w.Coals[1].Coke = span(5, 4) },
		"no curve":           func(w *api.Works) { w.House.Curve = nil },
		"too long a curve":   func(w *api.Works) { w.House.Curve = make([]api.Span, 25) },
		"the curve":          func(w *api.Works) { w.House.Curve[2] = span(2, 1) },
		"Least":              func(w *api.Works) { w.House.Least = 0 },
		"Runs":               func(w *api.Works) { w.House.Runs = 101 },
		"Scurf":              func(w *api.Works) { w.House.Scurf = 0 },
		"Coolings":           func(w *api.Works) { w.House.Coolings = -1 },
		"Gang":               func(w *api.Works) { w.House.Gang = 0 },
		"one good":           func(w *api.Works) { w.Goods, w.Stills, w.Sales = 1, nil, nil },
		"no goods":           func(w *api.Works) { w.Goods, w.Stills, w.Sales = 0, nil, nil },
		"goods below 0":      func(w *api.Works) { w.Goods, w.Stills, w.Sales = -1, nil, nil },
		"too many goods":     func(w *api.Works) { w.Goods, w.Stills, w.Sales = 7, nil, nil },
		"the least goods":    func(w *api.Works) { w.Goods = math.MinInt },
		"the greatest goods": func(w *api.Works) { w.Goods = math.MaxInt },
		"other goods":        func(w *api.Works) { w.Goods = 4 },
		"fewer goods":        func(w *api.Works) { w.Goods = 2 },
		"a still's In":       func(w *api.Works) { w.Stills[1].In = 3 },
		"a still's Takes":    func(w *api.Works) { w.Stills[0].Takes = 0 },
		"a still's Out":      func(w *api.Works) { w.Stills[0].Out[1] = span(3, 2) },
		"a still's Out of In": func(w *api.Works) {
			w.Stills[0].Out[0] = span(0, 1)
		},
		"a still's Pay":   func(w *api.Works) { w.Stills[0].Pay = -1 },
		"a still's Most":  func(w *api.Works) { w.Stills[1].Most = 9 },
		"stills' order":   func(w *api.Works) { w.Stills[0], w.Stills[1] = w.Stills[1], w.Stills[0] },
		"too many stills": func(w *api.Works) { w.Stills = make([]api.Still, 5) },
		"a sale's Good":   func(w *api.Works) { w.Sales[0].Good = 3 },
		"a sale's Most":   func(w *api.Works) { w.Sales[1].Most = -1 },
		"a sale's Price":  func(w *api.Works) { w.Sales[2].Price = 1000001 },
		"too many sales":  func(w *api.Works) { w.Sales = make([]api.Sale, 7) },
	} {
		wantNoWorks(t, name, changed(change))
	}
}

// TestWorksAtTheirLimits checks works that are just valid.
func TestWorksAtTheirLimits(t *testing.T) {
	for name, change := range map[string]func(w *api.Works){
		"the examples":           func(w *api.Works) {},
		"one coal":               func(w *api.Works) { w.Coals = w.Coals[:1] },
		"as many coals":          func(w *api.Works) { w.Coals = make([]api.Coal, 6) },
		"two goods":              func(w *api.Works) { w.Goods, w.Stills, w.Sales = 2, nil, w.Sales[1:] },
		"six goods":              func(w *api.Works) { w.Goods, w.Stills = 6, nil },
		"neither still nor sale": func(w *api.Works) { w.Stills, w.Sales = nil, []api.Sale{} },
		"as many sales":          func(w *api.Works) { w.Sales = make([]api.Sale, 6) },
		"as long a curve":        func(w *api.Works) { w.House.Curve = make([]api.Span, 24) },
		"no coolings":            func(w *api.Works) { w.House.Coolings = 0 },
	} {
		w := changed(change)
		play(t, newDesk(t, w), "left", "left", "entries", "entries", "peak", "peak 0 0 0")
		if replies, e := foreman.Run(w, "left\n"); replies != "left\n" || e != api.OK {
			t.Errorf("%s: Run = %q, error %d", name, replies, e)
		}
	}
}

// TestScriptsThatAreNotValid checks the errors of scripts, none of whose lines is then done.
func TestScriptsThatAreNotValid(t *testing.T) {
	for script, want := range map[string]api.Errno{
		"left":                              api.ErrForm,
		"left\nleft":                        api.ErrForm,
		"\nx":                               api.ErrForm,
		" ":                                 api.ErrForm,
		"left\n\r":                          api.ErrForm,
		strings.Repeat("x", 1<<17):          api.ErrForm,
		strings.Repeat("x", 1<<17) + "\n":   api.ErrLong,
		strings.Repeat("x", 1<<17+1):        api.ErrLong,
		strings.Repeat("\n", 1<<17+1):       api.ErrLong,
		strings.Repeat("left\n", 1<<15):     api.ErrLong,
		strings.Repeat("left\n", 1<<15)[1:]: api.ErrLong,
	} {
		if replies, e := foreman.Run(works(), script); replies != "" || e != want {
			t.Errorf("Run of %d bytes = %.80q, error %d; want error %d", len(script), replies, e, want)
		}
	}
}
