package bound_test

import (
	"math"
	"testing"

	"hoistway/api"
	"hoistway/bound"
)

// scene: a scenario as far as these layers ask it.
func scene(floors, gap, capacity, open, dwell, closing, transfer int) api.Scenario {
	return api.Scenario{
		Floors: floors, Gap: gap, Cars: 1, Capacity: capacity, Open: open, Dwell: dwell, Close: closing, Transfer: transfer,
		Segments: []api.Segment{{Kind: api.UpPeak, Ticks: 10, Rate: 5}}, Dispatcher: api.Collective, Horizon: 100, Bins: 5, Width: 10,
	}
}

// P23.1
func TestQuiet(t *testing.T) {
	for _, c := range []struct {
		s    api.Scenario
		want int
	}{
		{scene(2, 1, 1, 1, 1, 1, 1), 2 + 1 + 1 + 1 + 1 + 1 + 4},
		{scene(10, 3, 8, 1, 3, 2, 4), 2 + 4 + 3 + 2 + 27 + 3 + 4},
		{scene(10, 3, 8, 1, 4, 2, 3), 2 + 4 + 4 + 2 + 27 + 3 + 4},
		{scene(5, 2, 8, 7, 20, 30, 20), 14 + 20 + 20 + 30 + 8 + 2 + 4},
		{scene(128, 16, 64, 64, 64, 64, 64), 128 + 64 + 64 + 64 + 2032 + 16 + 4},
	} {
		if got := bound.Quiet(c.s); got != c.want {
			t.Errorf("Quiet(%v): %d; want %d", c.s, got, c.want)
		}
		if got := bound.Each(c.s); got != 2*c.want {
			t.Errorf("Each(%v): %d; want %d", c.s, got, 2*c.want)
		}
		for _, people := range []int{0, 1, 2, 1000, 1 << 30} {
			for _, last := range []int{0, 1, 77, 1 << 30} {
				if got := bound.Enough(c.s, people, last); got != last+people*2*c.want {
					t.Errorf("Enough(%v, %d, %d): %d", c.s, people, last, got)
				}
			}
		}
	}
}

// P23.1: which numbers of a scenario count, and how much.
func TestEach(t *testing.T) {
	a := scene(10, 3, 8, 5, 6, 7, 20)
	for _, c := range []struct {
		name                     string
		more                     func(*api.Scenario)
		quiet, round, stop, trip int
	}{
		{"floors", func(s *api.Scenario) { s.Floors++ }, 3, 6, 0, 6},
		{"gap", func(s *api.Scenario) { s.Gap++ }, 10, 18, 0, 18},
		{"open", func(s *api.Scenario) { s.Open++ }, 2, 0, 1, 4},
		{"dwell", func(s *api.Scenario) { s.Dwell++ }, 1, 0, 1, 4},
		{"close", func(s *api.Scenario) { s.Close++ }, 1, 0, 1, 4},
		{"transfer", func(s *api.Scenario) { s.Transfer++ }, 1, 0, 3, 6},
		{"others", func(s *api.Scenario) {
			s.Cars, s.Capacity, s.Segments, s.Dispatcher, s.Horizon, s.Bins, s.Width = 16, 64, nil, api.Destination, 1, 1, 1
		}, 0, 0, 0, 0},
	} {
		b := a
		c.more(&b)
		if n := bound.Quiet(b) - bound.Quiet(a); n != c.quiet {
			t.Errorf("Quiet, %s: %d", c.name, n)
		}
		if n := bound.Round(b) - bound.Round(a); n != c.round {
			t.Errorf("Round, %s: %d", c.name, n)
		}
		if n := bound.Stop(b, 3) - bound.Stop(a, 3); n != c.stop {
			t.Errorf("Stop, %s: %d", c.name, n)
		}
		if n := bound.Trip(b, 3) - bound.Trip(a, 3); n != c.trip {
			t.Errorf("Trip, %s: %d", c.name, n)
		}
	}
	// The greater of two counts in their place.
	b := a
	b.Dwell = 20
	if n := bound.Quiet(b) - bound.Quiet(a); n != 14 {
		t.Errorf("Quiet: %d", n)
	}
	b.Dwell = 21
	if n := bound.Quiet(b) - bound.Quiet(a); n != 16 {
		t.Errorf("Quiet: %d", n)
	}
}

// P23.1
func TestRoundStopTrip(t *testing.T) {
	s := scene(10, 3, 2, 1, 3, 2, 4)
	if got := bound.Round(s); got != 54 {
		t.Errorf("Round: %d", got)
	}
	if got := bound.Round(scene(2, 1, 1, 1, 1, 1, 1)); got != 2 {
		t.Errorf("Round: %d", got)
	}
	if got := bound.Round(scene(128, 16, 1, 1, 1, 1, 1)); got != 4064 {
		t.Errorf("Round: %d", got)
	}
	for people, want := range map[int]int{0: 6, 1: 10, 2: 14, 3: 18, 1000: 4006, 1 << 30: 6 + 1<<32, -1: 6, math.MinInt: 6} {
		if got := bound.Stop(s, people); got != want {
			t.Errorf("Stop(%d): %d; want %d", people, got, want)
		}
	}
	for people, want := range map[int]int{0: 60, 1: 54 + 10 + 10, 2: 54 + 14 + 20, 3: 54 + 14 + 20, 1 << 30: 54 + 14 + 20, math.MaxInt: 54 + 14 + 20, -1: 60, math.MinInt: 60} {
		if got := bound.Trip(s, people); got != want {
			t.Errorf("Trip(%d): %d; want %d", people, got, want)
		}
	}
	full := scene(128, 16, 64, 64, 64, 64, 64)
	if got := bound.Trip(full, 65); got != 4064+(192+64*64)+64*256 {
		t.Errorf("Trip: %d", got)
	}
}

// P1: of scenarios that may not be nothing is promised but that all ends.
func TestWrong(t *testing.T) {
	for _, n := range []int{math.MinInt, -1, 0, math.MaxInt} {
		s := scene(n, n, n, n, n, n, n)
		bound.Quiet(s)
		bound.Each(s)
		bound.Enough(s, n, n)
		bound.Round(s)
		bound.Stop(s, n)
		bound.Trip(s, n)
	}
}
