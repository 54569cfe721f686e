package report_test

import (
	"math"
	"math/rand/v2"
	"slices"
	"strconv"
	"strings"
	"testing"

	"hoistway/api"
	"hoistway/cols"
	"hoistway/report"
	"hoistway/sample"
	"hoistway/show"
	"hoistway/vet"
)

// house is a scenario that may be.
var house = api.Scenario{
	Floors: 5, Gap: 2, Cars: 2, Capacity: 8, Open: 1, Dwell: 3, Close: 2, Transfer: 1,
	Segments:   []api.Segment{{Kind: api.UpPeak, Ticks: 50, Rate: 60}, {Kind: api.Lunch, Ticks: 40, Rate: 90}},
	Dispatcher: api.Soonest, Horizon: 100, Bins: 3, Width: 10,
}

// P42.1
func TestStats(t *testing.T) {
	hundred := make([]int, 100)
	for i := range hundred {
		hundred[i] = 100 - i
	}
	for _, c := range []struct {
		name    string
		numbers []int
		want    []string
	}{
		{"wait", nil, []string{"wait", "n/a", "n/a", "n/a", "n/a", "n/a"}},
		{"", []int{}, []string{"", report.None, report.None, report.None, report.None, report.None}},
		{"one", []int{7}, []string{"one", "7", "7", "7", "7", "7"}},
		{"nothing", []int{0, 0}, []string{"nothing", "0", "0", "0", "0", "0"}},
		{"wait", []int{1, 2}, []string{"wait", "1+1/2", "1", "2", "2", "2"}},
		{"below one", []int{0, 1, 0}, []string{"below one", "0+1/3", "0", "1", "1", "1"}},
		{"not cut down", []int{5, 1, 2, 2}, []string{"not cut down", "2+2/4", "2", "5", "5", "5"}},
		{"all apart", hundred, []string{"all apart", "50+50/100", "50", "90", "95", "100"}},
		{"the greatest", []int{1 << 30, 1 << 30}, []string{"the greatest", "1073741824", "1073741824", "1073741824", "1073741824", "1073741824"}},
	} {
		before := slices.Clone(c.numbers)
		if got := report.Stats(c.name, c.numbers); !slices.Equal(got, c.want) {
			t.Errorf("Stats of %v: %q; want %q", c.numbers, got, c.want)
		}
		if !slices.Equal(c.numbers, before) {
			t.Errorf("%v are %v now", before, c.numbers)
		}
	}
}

// P42.1
func TestBins(t *testing.T) {
	for _, c := range []struct {
		bins, width    int
		waits, transit []int
		want           [][]string
	}{
		{3, 10, nil, nil, [][]string{{"0-9", "0", "0"}, {"10-19", "0", "0"}, {"20+", "0", "0"}}},
		{3, 10, []int{0, 9, 10, 19, 20, 21, 1 << 30}, []int{9}, [][]string{{"0-9", "2", "1"}, {"10-19", "2", "0"}, {"20+", "3", "0"}}},
		{2, 1, []int{1}, []int{0, 0, 5}, [][]string{{"0-0", "0", "2"}, {"1+", "1", "1"}}},
		{1, 4096, []int{0, 4096}, []int{4095}, [][]string{{"0+", "2", "1"}}},
	} {
		want := slices.Insert(c.want, 0, []string{"ticks", "wait", "transit"})
		if got := report.Bins(c.bins, c.width, c.waits, c.transit); !slices.EqualFunc(got, want, slices.Equal) {
			t.Errorf("Bins %d, %d of %v, %v: %q; want %q", c.bins, c.width, c.waits, c.transit, got, want)
		}
	}
	most := report.Bins(64, 4096, nil, nil)
	if len(most) != 65 || most[63][0] != "253952-258047" || most[64][0] != "258048+" {
		t.Errorf("%q", most)
	}
}

// P42.1: there is nothing to tell by bins or widths that may not be.
func TestNoBins(t *testing.T) {
	for _, c := range [][2]int{{0, 1}, {65, 1}, {1, 0}, {1, 4097}, {math.MinInt, math.MaxInt}} {
		if got := report.Bins(c[0], c[1], []int{1}, []int{2}); len(got) != 0 {
			t.Errorf("Bins %d, %d: %q", c[0], c[1], got)
		}
	}
}

// log: three are done, one rides, two wait; the doors open at floor 0 at the ticks 0 (of car 0), 40, and 61 (of car 1), elsewhere at 20.
var log = api.Log{
	Trips: []api.Trip{
		{Id: 0, Arrive: 0, From: 0, To: 2, Car: 0, Board: 2, Alight: 21},
		{Id: 1, Arrive: 10, From: 1, To: 0, Car: 0, Board: 21, Alight: 41},
		{Id: 2, Arrive: 12, From: 1, To: 0, Car: 0, Board: 22, Alight: 42},
		{Id: 3, Arrive: 50, From: 0, To: 1, Car: 1, Board: 62, Alight: -1},
		{Id: 4, Arrive: 90, From: 0, To: 1, Car: -1, Board: -1, Alight: -1},
		{Id: 5, Arrive: 91, From: 3, To: 1, Car: -1, Board: -1, Alight: -1},
	},
	Legs: [][]api.Leg{
		{{Tick: 0, Door: true}, {Tick: 4}, {Tick: 17, Pos: 1, Dir: 1}, {Tick: 20, Pos: 4, Door: true}, {Tick: 25, Pos: 3, Dir: -1}, {Tick: 28}, {Tick: 40, Door: true}, {Tick: 45}},
		{{Tick: 0, Pos: 4}, {Tick: 57, Pos: 3, Dir: -1}, {Tick: 61, Door: true}, {Tick: 70}, {Tick: 99, Pos: 1, Dir: 1}},
	},
	Used: 217,
}

// P42.2: letter by letter.
func TestText(t *testing.T) {
	const want = `building 5 2
cars 2 8
doors 1 3 2 1
traffic uppeak 50 60
traffic lunch 40 90
dispatcher soonest
horizon 100
bins 3 10

passengers      6
delivered       3
riding          1
waiting         2
handling        9
interval    30.50
load         0.48
travel         13
doors          23
words         217

ticks      mean  p50  p90  p95  p100
wait      7+2/3   10   11   11    11
transit  19+2/3   20   20   20    20

ticks  wait  transit
0-9       1        0
10-19     2        1
20+       0        2
`
	got, e := report.Text(house, log)
	if e != api.OK {
		t.Fatal(e)
	}
	if got != want {
		t.Errorf("%s; want %s", got, want)
	}
}

// P42.2: where there is nothing to tell.
func TestNothing(t *testing.T) {
	s := house
	s.Segments = s.Segments[:1]
	s.Bins = 2
	const want = `building 5 2
cars 2 8
doors 1 3 2 1
traffic uppeak 50 60
dispatcher soonest
horizon 100
bins 2 10

passengers     0
delivered      0
riding         0
waiting        0
handling       0
interval     n/a
load        0.00
travel         0
doors          0
words          0

ticks    mean  p50  p90  p95  p100
wait      n/a  n/a  n/a  n/a   n/a
transit   n/a  n/a  n/a  n/a   n/a

ticks  wait  transit
0-9       0        0
10+       0        0
`
	if got, e := report.Text(s, api.Log{}); got != want || e != api.OK {
		t.Errorf("%q, %v; want %q", got, e, want)
	}
}

// P42.2: of a scenario that may not be there is none, and vet's error.
func TestWrong(t *testing.T) {
	for _, c := range []struct {
		name string
		with func(*api.Scenario)
		want api.Errno
	}{
		{"all zero", func(s *api.Scenario) { *s = api.Scenario{} }, api.ErrBound},
		{"horizon", func(s *api.Scenario) { s.Horizon = api.MaxHorizon + 1 }, api.ErrBound},
		{"bins", func(s *api.Scenario) { s.Bins = 0 }, api.ErrBound},
		{"dispatcher", func(s *api.Scenario) { s.Dispatcher = 5 }, api.ErrWord},
		{"no segment", func(s *api.Scenario) { s.Segments = nil }, api.ErrLack},
		{"segments", func(s *api.Scenario) { s.Segments = make([]api.Segment, 9) }, api.ErrSize},
		{"template", func(s *api.Scenario) { s.Segments = []api.Segment{{Kind: 5, Ticks: 1}} }, api.ErrWord},
	} {
		s := house
		c.with(&s)
		if got, e := report.Text(s, log); got != "" || e != c.want || vet.Check(s) != e {
			t.Errorf("%s: %q, %v; want %v", c.name, got, e, c.want)
		}
	}
}

// P42.2: what lies behind the horizon counts for nothing, where the figures are told by it.
func TestHorizon(t *testing.T) {
	s := house
	s.Horizon = 50
	got, e := report.Text(s, log)
	if e != api.OK {
		t.Fatal(e)
	}
	want := map[string]string{"handling": "18", "interval": "40.00", "load": "0.59", "travel": "8", "doors": "14", "words": "217"}
	for line := range strings.Lines(got) {
		cells := cols.Cells(strings.TrimSpace(line))
		if len(cells) == 2 && want[cells[0]] != "" {
			if cells[1] != want[cells[0]] {
				t.Errorf("%s: %s; want %s", cells[0], cells[1], want[cells[0]])
			}
			delete(want, cells[0])
		}
	}
	if len(want) != 0 {
		t.Errorf("there is no %v", want)
	}
}

// sections: the lines of a report's parts, as cells.
func sections(t *testing.T, text string) [][][]string {
	t.Helper()
	if !strings.HasSuffix(text, "\n") {
		t.Fatalf("%q", text)
	}
	var parts [][][]string
	for _, part := range strings.Split(strings.TrimSuffix(text, "\n"), "\n\n") {
		var rows [][]string
		for _, line := range strings.Split(part, "\n") {
			rows = append(rows, cols.Cells(line))
		}
		parts = append(parts, rows)
	}
	return parts
}

// P42.2, P42.3: of drawn runs: the scenario is told as it is, each bin has as many as are within its bounds, and all together as many as are delivered.
func TestDrawn(t *testing.T) {
	for seed := range uint64(2000) {
		r := rand.New(rand.NewPCG(seed, 42))
		s := house
		s.Horizon, s.Bins, s.Width, s.Cars = 1+r.IntN(200), 1+r.IntN(9), 1+r.IntN(20), 1+r.IntN(4)
		l := api.Log{Trips: sample.Trips(r.IntN, r.IntN(40), s.Floors, s.Cars, s.Horizon), Used: r.IntN(1000)}
		for range s.Cars {
			l.Legs = append(l.Legs, sample.Legs(r.IntN, 1+r.IntN(9), 0, 9))
		}
		text, e := report.Text(s, l)
		scenario, _ := show.Text(s)
		if e != api.OK || !strings.HasPrefix(text, scenario+"\n") {
			t.Fatalf("seed %d: %q, %v", seed, text, e)
		}
		var waits, transits []int
		riding, waiting := 0, 0
		for _, x := range l.Trips {
			switch {
			case x.Alight >= 0:
				waits, transits = append(waits, x.Board-x.Arrive), append(transits, x.Alight-x.Board)
			case x.Board >= 0:
				riding++
			default:
				waiting++
			}
		}
		parts := sections(t, text)
		if len(parts) != 4 {
			t.Fatalf("seed %d: %q", seed, text)
		}
		for i, want := range []struct {
			name string
			n    int
		}{{"passengers", len(l.Trips)}, {"delivered", len(waits)}, {"riding", riding}, {"waiting", waiting}} {
			if got := parts[1][i]; !slices.Equal(got, []string{want.name, strconv.Itoa(want.n)}) {
				t.Fatalf("seed %d: %q; want %v", seed, got, want)
			}
		}
		if !slices.Equal(parts[2][1], report.Stats("wait", waits)) || !slices.Equal(parts[2][2], report.Stats("transit", transits)) {
			t.Fatalf("seed %d: %q", seed, parts[2])
		}
		checkBins(t, s, parts[3], waits, transits)
	}
}

// checkBins is P42.3: rows of bins, held against the numbers that they tell of.
func checkBins(t *testing.T, s api.Scenario, rows [][]string, waits, transits []int) {
	t.Helper()
	if len(rows) != s.Bins+1 || !slices.Equal(rows[0], []string{"ticks", "wait", "transit"}) {
		t.Fatalf("%q", rows)
	}
	for column, numbers := range [][]int{waits, transits} {
		sum := 0
		for i, row := range rows[1:] {
			least, greatest := i*s.Width, (i+1)*s.Width-1
			name := strconv.Itoa(least) + "-" + strconv.Itoa(greatest)
			if i == s.Bins-1 {
				name, greatest = strconv.Itoa(least)+"+", math.MaxInt
			}
			within := 0
			for _, n := range numbers {
				if least <= n && n <= greatest {
					within++
				}
			}
			if row[0] != name || row[1+column] != strconv.Itoa(within) {
				t.Fatalf("%q; want %s, %d", row, name, within)
			}
			sum += within
		}
		if sum != len(numbers) {
			t.Fatalf("%q: %d of %d", rows, sum, len(numbers))
		}
	}
}

// P1: at any argument all of it ends.
func TestEnds(t *testing.T) {
	numbers := []int{math.MinInt, -1, 0, 1, 1 << 30, math.MaxInt}
	for _, a := range numbers {
		for _, b := range numbers {
			report.Stats("x", []int{a, b})
			report.Bins(2, 3, []int{a}, []int{b})
			l := api.Log{
				Trips: []api.Trip{{Arrive: a, Board: b, Alight: a, Car: b}, {Arrive: b, Board: a, Alight: b, Car: a}},
				Legs:  [][]api.Leg{nil, {{Tick: a, Pos: b, Dir: a, Door: true}, {Tick: b, Dir: b}}},
				Used:  a,
			}
			if text, e := report.Text(house, l); text == "" || e != api.OK {
				t.Error(text, e)
			}
		}
	}
}
