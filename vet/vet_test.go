package vet_test

import (
	"math"
	"slices"
	"testing"

	"hoistway/api"
	"hoistway/vet"
)

// number is a number of a scenario, by its name: what it may be, and where it stands.
type number struct {
	name            string
	least, greatest int
	in              func(*api.Scenario) *int
}

// numbers: all, those of segments last.
func numbers() []number {
	return []number{
		{"floors", 2, 128, func(s *api.Scenario) *int { return &s.Floors }},
		{"gap", 1, 16, func(s *api.Scenario) *int { return &s.Gap }},
		{"cars", 1, 16, func(s *api.Scenario) *int { return &s.Cars }},
		{"capacity", 1, 64, func(s *api.Scenario) *int { return &s.Capacity }},
		{"open", 1, 64, func(s *api.Scenario) *int { return &s.Open }},
		{"dwell", 1, 64, func(s *api.Scenario) *int { return &s.Dwell }},
		{"close", 1, 64, func(s *api.Scenario) *int { return &s.Close }},
		{"transfer", 1, 64, func(s *api.Scenario) *int { return &s.Transfer }},
		{"horizon", 1, 1 << 20, func(s *api.Scenario) *int { return &s.Horizon }},
		{"bins", 1, 64, func(s *api.Scenario) *int { return &s.Bins }},
		{"width", 1, 4096, func(s *api.Scenario) *int { return &s.Width }},
		{"ticks", 1, 1 << 20, func(s *api.Scenario) *int { return &s.Segments[1].Ticks }},
		{"rate", 0, 4000, func(s *api.Scenario) *int { return &s.Segments[1].Rate }},
	}
}

// fine: a scenario that may be.
func fine() api.Scenario {
	return api.Scenario{
		Floors: 10, Gap: 3, Cars: 2, Capacity: 8, Open: 2, Dwell: 3, Close: 4, Transfer: 1,
		Segments:   []api.Segment{{Kind: api.UpPeak, Ticks: 100, Rate: 40}, {Kind: api.Lunch, Ticks: 50, Rate: 30}, {Kind: api.Interfloor, Ticks: 7}},
		Dispatcher: api.Soonest, Horizon: 500, Bins: 5, Width: 20,
	}
}

// wrongNumbers: outside some bounds.
func wrongNumbers(x number) []int {
	return []int{x.least - 1, x.greatest + 1, math.MinInt, math.MaxInt, x.least + 1<<32, x.least - 1<<32, -x.greatest}
}

// P20.1
func TestBoundsIn(t *testing.T) {
	for _, x := range numbers() {
		if least, greatest, ok := vet.Bounds(x.name); least != x.least || greatest != x.greatest || !ok {
			t.Errorf("Bounds(%s): %d, %d, %v", x.name, least, greatest, ok)
		}
		for _, n := range []int{x.least, x.least + 1, x.greatest - 1, x.greatest} {
			if !vet.In(x.name, n) {
				t.Errorf("In(%s, %d): false", x.name, n)
			}
		}
		for _, n := range wrongNumbers(x) {
			if vet.In(x.name, n) {
				t.Errorf("In(%s, %d): true", x.name, n)
			}
		}
	}
	for _, name := range []string{"", "Floors", "floor", "floors ", " gap", "car", "building", "doors", "traffic", "segments", "dispatcher", "kind", "template", "collective", "uppeak", "\x00", "gap\x00", "FLOORS"} {
		if least, greatest, ok := vet.Bounds(name); least != 0 || greatest != 0 || ok {
			t.Errorf("Bounds(%q): %d, %d, %v", name, least, greatest, ok)
		}
		for _, n := range []int{0, 1, 2, -1, math.MinInt, math.MaxInt} {
			if vet.In(name, n) {
				t.Errorf("In(%q, %d): true", name, n)
			}
		}
	}
}

func check(t *testing.T, s api.Scenario, want api.Errno) {
	t.Helper()
	as := s
	as.Segments = slices.Clone(s.Segments)
	if got := vet.Check(s); got != want || !slices.Equal(s.Segments, as.Segments) {
		t.Errorf("Check(%v): %d; want %d", as, int(got), int(want))
	}
}

// P20.2
func TestCheck(t *testing.T) {
	check(t, api.Scenario{}, api.ErrBound)
	check(t, fine(), api.OK)
	for _, x := range numbers() {
		for _, n := range []int{x.least, x.greatest} {
			s := fine()
			*x.in(&s) = n
			check(t, s, api.OK)
		}
		for _, n := range wrongNumbers(x) {
			s := fine()
			*x.in(&s) = n
			check(t, s, api.ErrBound)
		}
	}
	for _, d := range []api.Dispatcher{1, 2, 3, 4} {
		s := fine()
		s.Dispatcher = d
		check(t, s, api.OK)
	}
	for _, d := range []api.Dispatcher{0, 5, -1, math.MinInt, math.MaxInt} {
		s := fine()
		s.Dispatcher = d
		check(t, s, api.ErrWord)
	}
	for _, k := range []api.Template{1, 2, 3, 4} {
		s := fine()
		s.Segments[2].Kind = k
		check(t, s, api.OK)
	}
	for _, k := range []api.Template{0, 5, -1, math.MinInt, math.MaxInt} {
		for i := range 3 {
			s := fine()
			s.Segments[i].Kind = k
			check(t, s, api.ErrWord)
		}
	}
}

// P20.2: how many segments there may be.
func TestCheckSegments(t *testing.T) {
	for n := range 12 {
		s := fine()
		s.Segments = slices.Repeat(s.Segments[:1], n)
		switch {
		case n == 0:
			check(t, s, api.ErrLack)
			s.Segments = nil
			check(t, s, api.ErrLack)
		case n > 8:
			check(t, s, api.ErrSize)
		default:
			check(t, s, api.OK)
		}
	}
}

// P20.2: of several errors the one that is named first; of segments the first one's.
func TestCheckOrder(t *testing.T) {
	wrong := api.Segment{Kind: 9, Ticks: 0, Rate: -1}
	for _, x := range numbers()[:11] {
		s := fine()
		*x.in(&s) = x.greatest + 1
		s.Dispatcher, s.Segments = 0, nil
		check(t, s, api.ErrBound)
		s.Segments = slices.Repeat([]api.Segment{wrong}, 9)
		check(t, s, api.ErrBound)
		s.Dispatcher, s.Segments = 1, []api.Segment{wrong}
		check(t, s, api.ErrBound)
	}
	s := fine()
	s.Dispatcher, s.Segments = 0, nil
	check(t, s, api.ErrWord)
	s.Segments = slices.Repeat([]api.Segment{{Kind: 1}}, 9)
	check(t, s, api.ErrWord)
	s.Segments = []api.Segment{{Kind: 1}}
	check(t, s, api.ErrWord)
	s.Dispatcher = 4
	check(t, s, api.ErrBound)
	s.Segments = slices.Repeat([]api.Segment{wrong}, 9)
	check(t, s, api.ErrSize)
	s.Segments = []api.Segment{wrong}
	check(t, s, api.ErrWord)
	good, bound, word := api.Segment{Kind: 1, Ticks: 1}, api.Segment{Kind: 1, Ticks: 0}, api.Segment{Kind: 5, Ticks: 1}
	s.Segments = []api.Segment{good, bound, word}
	check(t, s, api.ErrBound)
	s.Segments = []api.Segment{good, word, bound}
	check(t, s, api.ErrWord)
	s.Segments = []api.Segment{good, {Kind: 2, Ticks: 5, Rate: 4001}, word}
	check(t, s, api.ErrBound)
}

// P20.2
func TestSame(t *testing.T) {
	same := func(a, b api.Scenario, want bool) {
		t.Helper()
		if vet.Same(a, b) != want || vet.Same(b, a) != want {
			t.Errorf("Same(%v, %v): not %v", a, b, want)
		}
	}
	same(fine(), fine(), true)
	same(api.Scenario{}, api.Scenario{}, true)
	same(api.Scenario{}, api.Scenario{Segments: []api.Segment{}}, true)
	same(fine(), api.Scenario{}, false)
	for _, x := range numbers() {
		was := fine()
		for _, n := range []int{0, -1, x.greatest, math.MinInt, *x.in(&was) + 1<<32} {
			a, b := fine(), fine()
			*x.in(&a) = n
			same(a, b, n == *x.in(&b))
			*x.in(&b) = n
			same(a, b, true)
		}
	}
	a := fine()
	a.Dispatcher = api.Sectors
	same(a, fine(), false)
	for i := range 3 {
		a = fine()
		a.Segments[i].Kind = api.DownPeak
		same(a, fine(), false)
		a = fine()
		a.Segments[i].Ticks++
		same(a, fine(), false)
		a = fine()
		a.Segments[i].Rate++
		same(a, fine(), false)
		a = fine()
		a.Segments = a.Segments[:i]
		same(a, fine(), false)
	}
	a = fine()
	slices.Reverse(a.Segments)
	same(a, fine(), false)
	a = fine()
	a.Segments = append(a.Segments, a.Segments[2])
	same(a, fine(), false)
	// Numbers that have changed places.
	a = fine()
	a.Open, a.Close = a.Close, a.Open
	same(a, fine(), false)
}
