package show_test

import (
	"math"
	"math/rand/v2"
	"strings"
	"testing"

	"hoistway/api"
	"hoistway/parse"
	"hoistway/show"
	"hoistway/vet"
)

// P27.1
func TestWords(t *testing.T) {
	for template, want := range map[api.Template]string{
		1: "uppeak", 2: "lunch", 3: "downpeak", 4: "interfloor", 0: "", 5: "", -1: "", math.MinInt: "", math.MaxInt: "", 1<<32 + 1: "",
	} {
		if got := show.Template(template); got != want {
			t.Errorf("Template(%d): %q; want %q", template, got, want)
		}
		if want != "" && parse.Template(want) != template {
			t.Errorf("Template(%d): %q is read as %d", template, want, parse.Template(want))
		}
	}
	for dispatcher, want := range map[api.Dispatcher]string{
		1: "collective", 2: "sectors", 3: "soonest", 4: "destination", 0: "", 5: "", -1: "", math.MinInt: "", math.MaxInt: "", 1<<32 + 1: "",
	} {
		if got := show.Dispatcher(dispatcher); got != want {
			t.Errorf("Dispatcher(%d): %q; want %q", dispatcher, got, want)
		}
		if want != "" && parse.Dispatcher(want) != dispatcher {
			t.Errorf("Dispatcher(%d): %q is read as %d", dispatcher, want, parse.Dispatcher(want))
		}
	}
}

func some() api.Scenario {
	return api.Scenario{
		Floors: 12, Gap: 3, Cars: 4, Capacity: 8, Open: 2, Dwell: 5, Close: 6, Transfer: 1,
		Segments: []api.Segment{
			{Kind: api.Lunch, Ticks: 600, Rate: 4000}, {Kind: api.UpPeak, Ticks: 1, Rate: 0}, {Kind: api.Interfloor, Ticks: 1 << 20, Rate: 7}, {Kind: api.Lunch, Ticks: 600, Rate: 4000}, {Kind: api.DownPeak, Ticks: 9, Rate: 10},
		},
		Dispatcher: api.Destination, Horizon: 1048576, Bins: 64, Width: 4096,
	}
}

// P27.1
func TestText(t *testing.T) {
	want := "building 12 3\ncars 4 8\ndoors 2 5 6 1\n" +
		"traffic lunch 600 4000\ntraffic uppeak 1 0\ntraffic interfloor 1048576 7\ntraffic lunch 600 4000\ntraffic downpeak 9 10\n" +
		"dispatcher destination\nhorizon 1048576\nbins 64 4096\n"
	if got, e := show.Text(some()); got != want || e != api.OK {
		t.Errorf("%q, %d; want %q", got, int(e), want)
	}
	for d, word := range []string{"collective", "sectors", "soonest", "destination"} {
		s := some()
		s.Dispatcher = api.Dispatcher(d + 1)
		if got, e := show.Text(s); got != strings.ReplaceAll(want, "destination", word) || e != api.OK {
			t.Errorf("%q, %d", got, int(e))
		}
	}
}

// P27.1: of a scenario that may not be layer 20's error.
func TestWrong(t *testing.T) {
	for i, change := range []func(*api.Scenario){
		func(s *api.Scenario) { *s = api.Scenario{} }, func(s *api.Scenario) { s.Floors = 129 }, func(s *api.Scenario) { s.Gap = 0 }, func(s *api.Scenario) { s.Cars = -1 }, func(s *api.Scenario) { s.Width = math.MaxInt }, func(s *api.Scenario) { s.Horizon, s.Dispatcher = 0, 9 },
		func(s *api.Scenario) { s.Dispatcher = 0 }, func(s *api.Scenario) { s.Dispatcher, s.Segments = 5, nil }, func(s *api.Scenario) { s.Segments = nil }, func(s *api.Scenario) { s.Segments = []api.Segment{} }, func(s *api.Scenario) { s.Segments = append(s.Segments, s.Segments...) },
		func(s *api.Scenario) { s.Segments[2].Kind = 0 }, func(s *api.Scenario) { s.Segments[2].Kind = 5 }, func(s *api.Scenario) { s.Segments[4].Ticks = 0 }, func(s *api.Scenario) { s.Segments[4].Rate = 4001 }, func(s *api.Scenario) { s.Segments[0].Rate, s.Segments[1].Kind = -1, 0 },
	} {
		s := some()
		change(&s)
		want := vet.Check(s)
		if got, e := show.Text(s); got != "" || e != want || want == api.OK {
			t.Errorf("%d: %q, %d; want %d", i, got, int(e), int(want))
		}
	}
}

// P27.2
func TestWhere(t *testing.T) {
	for _, c := range []struct {
		p    api.Problem
		want string
	}{
		{api.Problem{Code: api.ErrWord, Line: 3, Col: 1}, "3:1: error 260"}, {api.Problem{Code: api.ErrCount, Line: 1, Col: 7}, "1:7: error 261"}, {api.Problem{Code: api.ErrSize, Line: 65536, Col: 1000}, "65536:1000: error 21"},
		{api.Problem{Code: api.ErrLift}, "0:0: error 480"}, {api.Problem{Code: -5, Line: -1, Col: math.MinInt}, "-1:-9223372036854775808: error -5"}, {api.Problem{Code: math.MaxInt, Line: math.MaxInt, Col: 2}, "9223372036854775807:2: error 9223372036854775807"}, {api.Problem{Code: 1, Line: 1, Col: 1}, "1:1: error 1"},
		{api.Problem{}, ""}, {api.Problem{Line: 3, Col: 1}, ""}, {api.Problem{Code: api.OK, Col: 2}, ""},
	} {
		if got := show.Where(c.p); got != c.want {
			t.Errorf("Where(%v): %q; want %q", c.p, got, c.want)
		}
	}
}

// drawn: a scenario that may be, often with numbers at their bounds.
func drawn(r *rand.Rand) api.Scenario {
	number := func(name string) int {
		least, greatest, _ := vet.Bounds(name)
		switch r.IntN(4) {
		case 0:
			return least
		case 1:
			return greatest
		}
		return least + r.IntN(greatest-least+1)
	}
	s := api.Scenario{
		Floors: number("floors"), Gap: number("gap"), Cars: number("cars"), Capacity: number("capacity"),
		Open: number("open"), Dwell: number("dwell"), Close: number("close"), Transfer: number("transfer"),
		Dispatcher: api.Dispatcher(1 + r.IntN(4)), Horizon: number("horizon"), Bins: number("bins"), Width: number("width"),
	}
	for range 1 + r.IntN(8) {
		s.Segments = append(s.Segments, api.Segment{Kind: api.Template(1 + r.IntN(4)), Ticks: number("ticks"), Rate: number("rate")})
	}
	return s
}

// P27.3: what was written is parsed as it was.
func TestRound(t *testing.T) {
	for seed := range uint64(3000) {
		s := drawn(rand.New(rand.NewPCG(seed, 27)))
		text, e := show.Text(s)
		if e != api.OK {
			t.Fatal(s, int(e))
		}
		if got, bad := parse.Text(text); bad != (api.Problem{}) || !vet.Same(got, s) {
			t.Fatalf("%v: %q: %v, %v", s, text, got, bad)
		}
	}
}

// P27.3: what was parsed, written and parsed again is the same, and written the same.
func TestAgain(t *testing.T) {
	for seed := range uint64(1000) {
		r := rand.New(rand.NewPCG(seed, 273))
		first, _ := show.Text(drawn(r))
		l := strings.SplitAfter(strings.TrimSuffix(first, "\n"), "\n")
		l[len(l)-1] += "\n"
		r.Shuffle(len(l), func(i, k int) { l[i], l[k] = l[k], l[i] })
		mixed := strings.ReplaceAll(strings.Join(l, "#\n\n"), " ", "\t ")
		s, bad := parse.Text(mixed)
		if bad != (api.Problem{}) {
			t.Fatalf("%q: %v", mixed, bad)
		}
		text, e := show.Text(s)
		again, bad := parse.Text(text)
		if e != api.OK || bad != (api.Problem{}) || !vet.Same(again, s) {
			t.Fatalf("%q: %v; %q: %v, %v", mixed, s, text, again, bad)
		}
		if twice, e := show.Text(again); twice != text || e != api.OK {
			t.Fatalf("%q; %q, %d", text, twice, int(e))
		}
	}
}
