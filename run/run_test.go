package run_test

import (
	"errors"
	"fmt"
	"math"
	"math/rand/v2"
	"slices"
	"strconv"
	"strings"
	"testing"

	"hoistway/api"
	"hoistway/arrive"
	"hoistway/axiom"
	"hoistway/cumul"
	"hoistway/diff"
	"hoistway/draw"
	"hoistway/engine"
	"hoistway/lcg"
	"hoistway/parse"
	"hoistway/report"
	"hoistway/run"
	"hoistway/sample"
	"hoistway/show"
	"hoistway/tick"
)

// house has traffic in its first two ticks alone.
const house = `building 3 2
cars 1 2
doors 2 3 2 1
traffic uppeak 2 300
dispatcher collective
horizon 40
bins 3 2
`

// two are the words of which one comes in each of these ticks: to the floor 2, and to the floor 1.
var two = []uint32{3 << 30, 1 << 31, 3 << 30, 0}

// players: what plays a text, each by its name.
func players() map[string]func(string, []uint32) run.Result {
	return map[string]func(string, []uint32) run.Result{"Text": run.Text, "Slow": run.Slow}
}

// same: do two runs come to the same?
func same(a, b run.Result) bool {
	return a.Problem == b.Problem && a.Code == b.Code && a.Text == b.Text && diff.Same(a.Log, b.Log)
}

// written: a scenario that may be as a text.
func written(t *testing.T, s api.Scenario) string {
	t.Helper()
	text, e := show.Text(s)
	if e != api.OK {
		t.Fatal(s, int(e))
	}
	return text
}

// wordOf: a word that means that so many come in a tick, at a rate.
func wordOf(rate, many int) uint32 {
	table, _ := cumul.Table(rate)
	first, _ := draw.Span(table, many)
	return uint32(first)
}

// P49.1, P49.2: what is wrong with a text is told, whatever the words, and nothing else; the first of the document's examples, and the chapter's.
func TestRefused(t *testing.T) {
	for _, c := range []struct {
		text      string
		code      api.Errno
		line, col int
	}{
		{"", api.ErrLack, 1, 1},
		{"cars 2", api.ErrCount, 1, 7},
		{"\n\n", api.ErrLack, 2, 1},
		{house + "Bins 1 1", api.ErrByte, 8, 1},
		{house + "bins 1 1", api.ErrTwice, 8, 1},
		{house + strings.Repeat("traffic lunch 1 1\n", 8), api.ErrSize, 15, 1},
		{house + strings.Repeat(" ", api.MaxText), api.ErrSize, 1, 1},
		{strings.Replace(house, "40", "040", 1), api.ErrNum, 6, 9},
		{strings.Replace(house, "40", "0", 1), api.ErrBound, 6, 9},
		{strings.Replace(house, "40", "1048577", 1), api.ErrBound, 6, 9},
		{strings.Replace(house, "40", "forty", 1), api.ErrWord, 6, 9},
		{strings.Replace(house, "uppeak", "uphill", 1), api.ErrWord, 4, 9},
		{strings.Replace(house, "traffic", "people", 1), api.ErrWord, 4, 1},
		{strings.Replace(house, "2 3 2 1", "2 3 2 1 4", 1), api.ErrCount, 3, 15},
		{strings.Replace(house, "bins 3 2\n", "", 1), api.ErrLack, 6, 11},
		{"\x00\xff", api.ErrByte, 1, 1},
	} {
		want := run.Result{Problem: api.Problem{Code: c.code, Line: c.line, Col: c.col}}
		for name, play := range players() {
			for _, words := range [][]uint32{nil, {}, two, make([]uint32, 1000)} {
				if got := play(c.text, words); !same(got, want) || got.Ends() != run.Refused {
					t.Errorf("%s of %.40q, %d words: %v, %d; want %v", name, c.text, len(words), got, got.Ends(), want)
				}
			}
		}
	}
}

// P49.1, P49.2: a word isn't there that must be: that is told, and nothing else; the second of the document's examples.
func TestDry(t *testing.T) {
	want := run.Result{Code: api.ErrDry}
	for name, play := range players() {
		for many := range two {
			if got := play(house, two[:many]); !same(got, want) || got.Ends() != run.Dry {
				t.Errorf("%s of %d words: %v, %d", name, many, got, got.Ends())
			}
		}
		if got := play(house, nil); !same(got, want) || got.Ends() != run.Dry {
			t.Errorf("%s of none: %v, %d", name, got, got.Ends())
		}
	}
}

// P49.1, P49.2: of more people than there may be another error is told.
func TestTooMany(t *testing.T) {
	text := written(t, api.Scenario{
		Floors: 2, Gap: 1, Cars: 1, Capacity: 1, Open: 1, Dwell: 1, Close: 1, Transfer: 1,
		Segments:   []api.Segment{{Kind: api.Interfloor, Ticks: api.MaxHorizon, Rate: api.MaxRate}},
		Dispatcher: api.Collective, Horizon: api.MaxHorizon, Bins: 1, Width: 1,
	})
	table, _ := cumul.Table(api.MaxRate)
	most := draw.Of(table, math.MaxUint32)
	words := slices.Repeat([]uint32{math.MaxUint32}, (api.MaxPeople/most+1)*(most+1))
	for name, play := range players() {
		if got := play(text, words); !same(got, run.Result{Code: api.ErrSize}) || got.Ends() != run.Dry {
			t.Errorf("%s: %v, %v, %d", name, got.Problem, got.Code, got.Ends())
		}
	}
}

// P49.1: a whole run, letter by letter: two come one behind the other, and ride in one car.
func TestTold(t *testing.T) {
	want := run.Result{
		Text: house + `
passengers     2
delivered      2
riding         0
waiting        0
handling      15
interval     n/a
load        0.85
travel         4
doors         25
words          4

ticks    mean  p50  p90  p95  p100
wait        2    2    2    2     2
transit    17   11   23   23    23

ticks  wait  transit
0-1       0        0
2-3       2        0
4+        0        2
`,
		Log: api.Log{
			Trips: []api.Trip{
				{Id: 0, Arrive: 0, From: 0, To: 2, Car: 0, Board: 2, Alight: 25},
				{Id: 1, Arrive: 1, From: 0, To: 1, Car: 0, Board: 3, Alight: 14},
			},
			Legs: [][]api.Leg{{
				{Tick: 0, Door: true}, {Tick: 9, Dir: 1}, {Tick: 12, Pos: 2, Door: true},
				{Tick: 20, Pos: 2, Dir: 1}, {Tick: 23, Pos: 4, Door: true}, {Tick: 31, Pos: 4},
			}},
			Used: 4,
		},
	}
	for name, play := range players() {
		if got := play(house, two); !same(got, want) || got.Ends() != run.Told {
			t.Errorf("%s: %v, %d\n%s", name, got.Log, got.Ends(), got.Text)
		}
		// However a text is written, its scenario is told as layer 27 has it.
		if got := play("# a house\n\t"+strings.ReplaceAll(house, " ", "  "), two); !same(got, want) {
			t.Errorf("%s: %v\n%s", name, got.Log, got.Text)
		}
	}
}

// numbers: what a report tells in its rows of a name and a number.
func numbers(text string) map[string]string {
	m := map[string]string{}
	for line := range strings.Lines(text) {
		if l := strings.Fields(line); len(l) == 2 {
			m[l[0]] = l[1]
		}
	}
	return m
}

// P49.1, and the ninth of the document's examples: the horizon comes while three ride and two wait; nobody is left out.
func TestHorizon(t *testing.T) {
	text := strings.NewReplacer("cars 1 2", "cars 1 3", "uppeak 2 300", "uppeak 1 4000", "horizon 40", "horizon 8").Replace(house)
	words := []uint32{wordOf(api.MaxRate, 5), 0, 0, 0, 0, 0}
	for name, play := range players() {
		got := play(text, words)
		for id, x := range got.Log.Trips {
			want := api.Trip{Id: id, To: 1, Car: 0, Board: 2 + id, Alight: -1}
			if id >= 3 {
				want.Car, want.Board = -1, -1
			}
			if x != want {
				t.Errorf("%s: %v; want %v", name, x, want)
			}
		}
		want := map[string]string{"passengers": "5", "delivered": "0", "riding": "3", "waiting": "2", "handling": "0", "words": "6"}
		told := numbers(got.Text)
		for row, n := range want {
			if told[row] != n {
				t.Errorf("%s: %s %s; want %s", name, row, told[row], n)
			}
		}
	}
}

// P49.1, and the tenth of the document's examples: with nobody carried, means and percentiles are n/a. No word is drawn of a rate of 0.
func TestNobody(t *testing.T) {
	still := strings.Replace(house, "uppeak 2 300", "uppeak 1048576 0", 1)
	for name, play := range players() {
		for _, c := range []struct {
			text  string
			words []uint32
			used  int
		}{{still, nil, 0}, {still, []uint32{}, 0}, {still, two, 0}, {house, []uint32{0, 0}, 2}, {house, []uint32{0, 0, 7}, 2}} {
			got := play(c.text, c.words)
			want := api.Log{Legs: [][]api.Leg{{{}}}, Used: c.used}
			if got.Ends() != run.Told || !diff.Same(got.Log, want) {
				t.Errorf("%s: %v, %d; want %v", name, got.Log, got.Ends(), want)
			}
			for _, row := range []string{"wait      n/a  n/a  n/a  n/a   n/a\n", "transit   n/a  n/a  n/a  n/a   n/a\n", "passengers     0\n"} {
				if !strings.Contains(got.Text, "\n"+row) {
					t.Errorf("%s: %q isn't in\n%s", name, row, got.Text)
				}
			}
		}
	}
}

// P49.1: only the ticks ahead of the horizon, and of the end of all traffic, draw a word, and those of a rate of 0 don't.
func TestUsed(t *testing.T) {
	for _, c := range []struct {
		traffic string
		used    int
	}{
		{"traffic uppeak 9 300\ntraffic lunch 5 0\ntraffic lunch 3 40", 12},
		{"traffic uppeak 9 300\ntraffic lunch 500 0\ntraffic lunch 3 40", 9},
		{"traffic lunch 39 0\ntraffic interfloor 1 1", 1},
		{"traffic lunch 40 0\ntraffic interfloor 1 1", 0},
		{"traffic interfloor 100 1000", 40},
	} {
		text := strings.Replace(house, "traffic uppeak 2 300", c.traffic, 1)
		for name, play := range players() {
			got := play(text, make([]uint32, c.used))
			if got.Ends() != run.Told || got.Log.Used != c.used || numbers(got.Text)["words"] != strconv.Itoa(c.used) {
				t.Errorf("%s of %s: %d, %v; want %d words", name, c.traffic, got.Ends(), got.Log, c.used)
			}
			if c.used == 0 {
				continue
			}
			if got := play(text, make([]uint32, c.used-1)); got.Ends() != run.Dry {
				t.Errorf("%s of %s: %d", name, c.traffic, got.Ends())
			}
		}
	}
}

// game: a scenario that may be, and more words than it takes.
func game(seed uint64) (api.Scenario, []uint32) {
	return sample.Traffic(rand.New(rand.NewPCG(seed, 49)).IntN)
}

// plain: what P49.1 asks for, of a scenario that may be, by the layers below alone.
func plain(s api.Scenario, words []uint32, log func(api.Scenario, []api.Passenger) api.Log) run.Result {
	people, left, e := arrive.List(s, api.Stream{Words: words})
	if e != api.OK {
		return run.Result{Code: e}
	}
	l := log(s, people)
	l.Used = left.At
	text, _ := report.Text(s, l)
	return run.Result{Text: text, Log: l}
}

// P49.1, P49.3: drawn scenarios: Text is what layer 47 makes, Slow what layer 46 makes, and both are the same; what comes of them can be.
func TestDrawn(t *testing.T) {
	var by [5]int
	moved := 0
	for seed := range uint64(3000) {
		s, words := game(seed)
		text := written(t, s)
		got, slow := run.Text(text, words), run.Slow(text, words)
		if got.Ends() != run.Told || !same(got, plain(s, words, engine.Run)) {
			t.Fatalf("seed %d: Text: %v\n%s", seed, got.Log, got.Text)
		}
		if !same(slow, plain(s, words, tick.Run)) {
			t.Fatalf("seed %d: Slow: %v\n%s", seed, slow.Log, slow.Text)
		}
		if !same(got, slow) {
			t.Fatalf("seed %d: Text: %v; Slow: %v\n%s\n%s", seed, got.Log, slow.Log, got.Text, slow.Text)
		}
		people, _, _ := arrive.List(s, api.Stream{Words: words})
		if k := axiom.Check(s, people, got.Log); k != axiom.Fine {
			t.Fatalf("seed %d: %d: %v", seed, k, got.Log)
		}
		if len(people) > 5 {
			by[s.Dispatcher]++
		}
		for _, x := range got.Log.Trips {
			moved += min(x.Alight+1, 1)
		}
	}
	if by[1] < 100 || by[2] < 100 || by[3] < 100 || by[4] < 100 || moved < 10000 {
		t.Error(by, moved)
	}
}

// P49.3: more words change nothing of what is told, be they as they like; of fewer than were drawn nothing is told.
func TestMoreWords(t *testing.T) {
	drawn := 0
	for seed := range uint64(600) {
		s, words := game(seed)
		text := written(t, s)
		want := run.Text(text, words)
		used := want.Log.Used
		if used > 0 {
			drawn++
		}
		for name, play := range players() {
			for _, more := range [][]uint32{nil, {0}, {math.MaxUint32}, words, make([]uint32, 5000)} {
				if got := play(text, slices.Concat(words[:used], more)); !same(got, want) {
					t.Fatalf("seed %d: %s with %d more: %v; want %v", seed, name, len(more), got.Log, want.Log)
				}
			}
			for _, fewer := range []int{1, 2, used} {
				if fewer < 1 || fewer > used {
					continue
				}
				if got := play(text, words[:used-fewer]); !same(got, run.Result{Code: api.ErrDry}) {
					t.Fatalf("seed %d: %s with %d fewer: %v", seed, name, fewer, got)
				}
			}
		}
	}
	if drawn < 300 {
		t.Error(drawn)
	}
}

// P49.1 to P49.4: of texts with a few pieces put in, left out, changed, and any words, just one of three comes, the same of Text and Slow.
func TestMixed(t *testing.T) {
	pieces := []string{" ", "\n", "\n", "0", "1", "9", "17", " 2 ", "cars", " bins ", "lunch", "sectors", "traffic uppeak 5 5\n", "\ntraffic lunch 1 1", "#", "-", "x"}
	var ends [3]int
	for seed := range uint64(6000) {
		s, words := game(seed)
		s.Horizon = min(s.Horizon, 60)
		r := rand.New(rand.NewPCG(seed, 3))
		text, words := written(t, s), words[:r.IntN(200)]
		for range r.IntN(3) {
			at := r.IntN(len(text) + 1)
			upTo := min(len(text), at+r.IntN(3)*r.IntN(6))
			text = text[:at] + pieces[r.IntN(len(pieces))] + text[upTo:]
		}
		got := run.Text(text, words)
		if slow := run.Slow(text, words); !same(got, slow) {
			t.Fatalf("%q: Text: %v; Slow: %v", text, got, slow)
		}
		want := run.Result{}
		scenario, bad := parse.Text(text)
		if want.Problem = bad; bad.Code == api.OK {
			want = plain(scenario, words, engine.Run)
		}
		if !same(got, want) {
			t.Fatalf("%q: %v; want %v", text, got, want)
		}
		refused, dry, told := got.Problem != api.Problem{}, got.Code != api.OK, got.Text != ""
		if one := [3]bool{refused, dry, told}; one != [3]bool{got.Ends() == run.Refused, got.Ends() == run.Dry, got.Ends() == run.Told} {
			t.Fatalf("%q: %v, %d", text, got, got.Ends())
		}
		checkReport(t, text, words, got)
		ends[got.Ends()]++
	}
	if ends[run.Refused] < 1000 || ends[run.Dry] < 300 || ends[run.Told] < 1000 {
		t.Error(ends)
	}
}

// checkReport: P49.4's Report of a text and words is as Text has it.
func checkReport(t *testing.T, text string, words []uint32, want run.Result) {
	t.Helper()
	told, e := run.Report(text, words)
	if want.Ends() == run.Told {
		if told != want.Text || e != nil {
			t.Errorf("Report of %q: %q, %v; want %q", text, told, e, want.Text)
		}
		return
	}
	w, ok := e.(*run.Wrong)
	if told != "" || !ok || w == nil || *w != (run.Wrong{Problem: want.Problem, Code: want.Code}) {
		t.Errorf("Report of %q: %q, %v; want %v", text, told, e, want)
	}
	if why, ok := run.Why(e); !ok || why != *w {
		t.Errorf("Why of %v: %v, %v", e, why, ok)
	}
}

// P49.4: Report of each of the three ends.
func TestReport(t *testing.T) {
	for _, c := range []struct {
		text  string
		words []uint32
		want  run.Wrong
		tells string
	}{
		{"", two, run.Wrong{Problem: api.Problem{Code: api.ErrLack, Line: 1, Col: 1}}, "1:1: error 263"},
		{"cars 2", nil, run.Wrong{Problem: api.Problem{Code: api.ErrCount, Line: 1, Col: 7}}, "1:7: error 261"},
		{house + "lifts", two, run.Wrong{Problem: api.Problem{Code: api.ErrWord, Line: 8, Col: 1}}, "8:1: error 260"},
		{house, two[:3], run.Wrong{Code: api.ErrDry}, "hoistway: error 50"},
		{house, nil, run.Wrong{Code: api.ErrDry}, "hoistway: error 50"},
	} {
		told, e := run.Report(c.text, c.words)
		w, ok := e.(*run.Wrong)
		if told != "" || !ok || *w != c.want || e.Error() != c.tells {
			t.Errorf("Report of %q: %q, %v; want %v", c.text, told, e, c.want)
		}
	}
	if told, e := run.Report(house, two); told != run.Text(house, two).Text || !strings.HasPrefix(told, house) || e != nil {
		t.Errorf("Report: %q, %v", told, e)
	}
}

// P49.2: Refused goes ahead of Dry, and this of Told; all else counts for nothing.
func TestEnds(t *testing.T) {
	if run.Refused != 0 || run.Dry != 1 || run.Told != 2 {
		t.Error(run.Refused, run.Dry, run.Told)
	}
	log := api.Log{Trips: []api.Trip{{}}, Used: 3}
	for _, c := range []struct {
		r    run.Result
		want run.Kind
	}{
		{run.Result{}, run.Told},
		{run.Result{Text: "x", Log: log}, run.Told},
		{run.Result{Problem: api.Problem{Line: 1, Col: 2}}, run.Told},
		{run.Result{Code: api.ErrDry}, run.Dry},
		{run.Result{Code: api.ErrSize, Text: "x", Log: log}, run.Dry},
		{run.Result{Code: -1, Problem: api.Problem{Line: 1}}, run.Dry},
		{run.Result{Problem: api.Problem{Code: api.ErrLack}}, run.Refused},
		{run.Result{Problem: api.Problem{Code: api.ErrLack, Line: 1, Col: 1}, Code: api.ErrDry, Text: "x", Log: log}, run.Refused},
		{run.Result{Problem: api.Problem{Code: math.MinInt}, Code: math.MaxInt}, run.Refused},
	} {
		if got := c.r.Ends(); got != c.want {
			t.Errorf("Ends of %v: %d; want %d", c.r, got, c.want)
		}
	}
}

// P49.4: Error tells the place, if the text is wrong, else the code.
func TestError(t *testing.T) {
	for _, c := range []struct {
		w    run.Wrong
		want string
	}{
		{run.Wrong{}, "hoistway: error 0"},
		{run.Wrong{Code: api.ErrDry}, "hoistway: error 50"},
		{run.Wrong{Code: api.ErrSize, Problem: api.Problem{Line: 3, Col: 1}}, "hoistway: error 21"},
		{run.Wrong{Code: -7}, "hoistway: error -7"},
		{run.Wrong{Code: math.MinInt}, "hoistway: error -9223372036854775808"},
		{run.Wrong{Problem: api.Problem{Code: api.ErrWord, Line: 3, Col: 1}}, "3:1: error 260"},
		{run.Wrong{Problem: api.Problem{Code: api.ErrWord, Line: 3, Col: 1}, Code: api.ErrDry}, "3:1: error 260"},
		{run.Wrong{Problem: api.Problem{Code: api.ErrForm}}, "0:0: error 20"},
		{run.Wrong{Problem: api.Problem{Code: -1, Line: math.MinInt, Col: -2}}, "-9223372036854775808:-2: error -1"},
	} {
		before := c.w
		if got := c.w.Error(); got != c.want || c.w != before {
			t.Errorf("Error of %v: %q; want %q", before, got, c.want)
		}
		if got := show.Where(c.w.Problem); got != "" && got != c.want {
			t.Errorf("%v: %q isn't %q", c.w, c.want, got)
		}
	}
	var none *run.Wrong
	if got := none.Error(); got != "hoistway: error 0" {
		t.Errorf("Error of none: %q", got)
	}
}

// wrapper is an error that wraps another one, or none.
type wrapper struct{ inner error }

func (w *wrapper) Error() string { return "wrapped" }
func (w *wrapper) Unwrap() error { return w.inner }

// list is an error that wraps many.
type list []error

func (l list) Error() string   { return "many" }
func (l list) Unwrap() []error { return l }

// stand is an error that tells by itself as what it can be taken.
type stand struct{ as func(target any) bool }

func (s stand) Error() string      { return "stand" }
func (s stand) As(target any) bool { return s.as(target) }

// P49.4: Why finds the Wrong that an error is, or wraps, however deep.
func TestWhy(t *testing.T) {
	w := &run.Wrong{Problem: api.Problem{Code: api.ErrWord, Line: 3, Col: 1}, Code: api.ErrDry}
	other := &run.Wrong{Code: api.ErrSize}
	deep := error(w)
	for range 1000 {
		deep = &wrapper{deep}
	}
	for name, e := range map[string]error{
		"itself":     w,
		"wrapped":    &wrapper{w},
		"by fmt":     fmt.Errorf("no report: %w", w),
		"deep":       deep,
		"one of two": errors.Join(api.ErrDry, w),
		"in a list":  list{nil, api.ErrDry, &wrapper{}, list{}, list{&wrapper{w}}, other},
		"first":      errors.Join(w, other),
		"stand": stand{func(target any) bool {
			to, ok := target.(**run.Wrong)
			if ok {
				*to = w
			}
			return ok
		}},
	} {
		got, ok := run.Why(e)
		if got != *w || !ok {
			t.Errorf("Why of %s: %v, %v", name, got, ok)
		}
	}
	if got, ok := run.Why(&wrapper{&run.Wrong{}}); got != (run.Wrong{}) || !ok {
		t.Errorf("Why of a zero one: %v, %v", got, ok)
	}
	// What is answered is a copy.
	got, _ := run.Why(w)
	got.Code = api.OK
	if w.Code != api.ErrDry {
		t.Error(*w)
	}
}

// P49.4, P1: there is no Wrong: nothing is told; nor of an error that panics when it is asked.
func TestWhyNone(t *testing.T) {
	for name, e := range map[string]error{
		"nil":              nil,
		"code":             api.ErrDry,
		"no code":          api.OK,
		"another":          errors.New("3:1: error 260"),
		"wraps none":       &wrapper{},
		"wraps another":    fmt.Errorf("no: %w", api.ErrDry),
		"empty list":       list{},
		"nils":             list{nil, nil},
		"no Wrong":         (*run.Wrong)(nil),
		"wraps no Wrong":   &wrapper{(*run.Wrong)(nil)},
		"Unwrap panics":    (*wrapper)(nil),
		"inner panics":     errors.Join(api.ErrDry, (*wrapper)(nil)),
		"As panics":        stand{func(any) bool { panic("no") }},
		"no As":            stand{},
		"As tells nothing": stand{func(any) bool { return true }},
	} {
		if got, ok := run.Why(e); got != (run.Wrong{}) || ok {
			t.Errorf("Why of %s: %v, %v", name, got, ok)
		}
	}
}

// P2, rule 5: what is handed in isn't changed, what is answered is new, and the same again.
func TestMemory(t *testing.T) {
	for name, play := range players() {
		words := slices.Clone(two)
		first := play(house, words)
		if !slices.Equal(words, two) {
			t.Errorf("%s: the words are %v", name, words)
		}
		clear(words)
		want := play(house, two)
		if !same(first, want) {
			t.Errorf("%s: %v, with other words", name, first.Log)
		}
		clear(first.Log.Trips)
		clear(first.Log.Legs[0])
		clear(first.Log.Legs)
		if again := play(house, two); !same(want, again) {
			t.Errorf("%s: %v; then %v", name, want.Log, again.Log)
		}
	}
}

// P1, P49.3: at the greatest and the least bounds, too, each dispatcher comes to an end, the same by both.
func TestBounds(t *testing.T) {
	words := lcg.Make(49, 1<<20)
	for d := api.Collective; d <= api.Destination; d++ {
		great := api.Scenario{
			Floors: api.MaxFloors, Gap: api.MaxGap, Cars: api.MaxCars, Capacity: api.MaxCapacity,
			Open: api.MaxDoor, Dwell: api.MaxDoor, Close: api.MaxDoor, Transfer: api.MaxDoor,
			Dispatcher: d, Horizon: 4000, Bins: api.MaxBins, Width: api.MaxWidth,
		}
		for kind := api.UpPeak; kind <= api.Interfloor; kind++ {
			great.Segments = append(great.Segments, api.Segment{Kind: kind, Ticks: 500, Rate: api.MaxRate}, api.Segment{Kind: kind, Ticks: 200})
		}
		small := api.Scenario{
			Floors: 2, Gap: 1, Cars: 1, Capacity: 1, Open: 1, Dwell: 1, Close: 1, Transfer: 1,
			Segments:   []api.Segment{{Kind: api.Lunch, Ticks: 1, Rate: api.MaxRate}},
			Dispatcher: d, Horizon: 1, Bins: 1, Width: 1,
		}
		long := small
		long.Horizon = api.MaxHorizon
		for _, s := range []api.Scenario{great, small, long} {
			text := written(t, s)
			got, slow := run.Text(text, words), run.Slow(text, words)
			if got.Ends() != run.Told || !same(got, slow) || !strings.HasPrefix(got.Text, text+"\n") {
				t.Errorf("%s: %d, %d", text, got.Ends(), slow.Ends())
			}
		}
	}
}
