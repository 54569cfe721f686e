package eta_test

import (
	"math"
	"math/rand/v2"
	"testing"

	"hoistway/api"
	"hoistway/bits"
	"hoistway/eta"
)

// house has a stop's time so great that an answer tells how many stops it has.
var house = api.Scenario{Floors: 10, Gap: 2, Cars: 3, Capacity: 8, Open: 20, Dwell: 30, Close: 10, Transfer: 40}

// stop is a stop's time in house.
const stop = 100

func far(a, b int) int { return max(a-b, b-a) }

// P34.1
func TestDoor(t *testing.T) {
	s := api.Scenario{Open: 1000, Transfer: 200, Dwell: 30, Close: 4}
	for _, c := range []struct {
		mode api.Mode
		want int
	}{
		{api.Idle, 0}, {api.Moving, 0}, {api.Opening, 50007 + 234}, {api.Open, 50007 + 34}, {api.Closing, 50007}, {-1, 0}, {5, 0}, {math.MaxInt, 0},
	} {
		if got := eta.Door(s, api.Car{Mode: c.mode, Left: 50007, Waited: true}); got != c.want {
			t.Errorf("Door of %d: %d; want %d", c.mode, got, c.want)
		}
	}
}

// P34.2: each case that the chapter names, by itself.
func TestOf(t *testing.T) {
	for _, c := range []struct {
		name       string
		pos, car   int
		stops      api.Set
		floor, dir int
		want       int
	}{
		{"no direction", 0, 0, bits.Of(), 3, 1, 6},
		{"no direction, stops between", 0, 0, bits.Of(0, 1, 2, 3, 4), 3, 1, 6 + 2*stop},
		{"no direction, down", 9, 0, bits.Of(0, 1, 2, 3, 4, 5), 1, -1, 7 + 3*stop},
		{"no direction, here", 4, 0, bits.Of(1, 2, 3), 2, 1, 0},
		{"none ahead", 4, 1, bits.Of(0, 1, 2), 4, -1, 4},
		{"none ahead, away", 8, 1, bits.Of(0, 1, 2, 3, 4), 1, 1, 6 + 2*stop},
		{"none ahead, here", 4, -1, bits.Of(2, 3), 2, 1, 0},
		{"its way, as it goes", 4, 1, bits.Of(3, 4, 5, 6), 5, 1, 6 + 2*stop},
		{"its way, as it goes, down", 9, -1, bits.Of(0, 2, 3, 4, 5), 2, -1, 5 + 2*stop},
		{"its way, and nothing behind the floor", 4, 1, bits.Of(3, 5), 5, -1, 6 + stop},
		{"its way, and nothing behind the floor, down", 9, -1, bits.Of(2, 4), 2, 1, 5 + stop},
		{"its way, but it goes on", 4, 1, bits.Of(1, 3, 5, 6, 7), 5, -1, 10 + 4 + 4*stop},
		{"its way, but it goes on, down", 9, -1, bits.Of(1, 2, 4, 6), 3, 1, 7 + 4 + 3*stop},
		{"here, as it goes", 4, 1, bits.Of(2, 3, 7), 2, 1, 0},
		{"here, but it goes on", 4, 1, bits.Of(1, 2, 3, 7), 2, -1, 20 + 2*stop},
		{"here, but it goes on, down", 4, -1, bits.Of(0, 2, 3), 2, 1, 8 + stop},
		{"away", 8, 1, bits.Of(5, 6), 2, 1, 4 + 8 + 2*stop},
		{"away, stops between", 8, 1, bits.Of(0, 1, 2, 3, 4, 6), 1, -1, 4 + 10 + 3*stop},
		{"away, down", 5, -1, bits.Of(1, 2, 3, 4, 5, 6), 5, 1, 3 + 8 + 4*stop},
		{"between two floors: the one behind counts for nothing", 5, 1, bits.Of(2, 3, 4), 4, 1, 3 + stop},
		{"between two floors: the one behind counts on the way back", 5, 1, bits.Of(2, 3), 1, 1, 1 + 4 + 2*stop},
		{"between two floors, down", 5, -1, bits.Of(2, 3, 4), 0, -1, 5 + stop},
		{"between two floors, no direction", 5, 0, bits.Of(2, 3), 4, 1, 3 + stop},
	} {
		car := api.Car{Pos: c.pos, Dir: c.car}
		if got := eta.Of(house, car, c.stops, c.floor, c.dir); got != c.want {
			t.Errorf("%s: %d; want %d", c.name, got, c.want)
		}
		car.Mode, car.Left = api.Open, 7
		if got := eta.Of(house, car, c.stops, c.floor, c.dir); got != c.want+47 {
			t.Errorf("%s, with an open door: %d; want %d", c.name, got, c.want+47)
		}
	}
}

// of is P34.2, floor by floor.
func of(s api.Scenario, c api.Car, stops api.Set, floor, dir int) int {
	at, between, ahead, turn, on := floor*s.Gap, 0, 0, c.Pos, false
	for f := range 128 {
		if !bits.Has(stops, f) {
			continue
		}
		p := f * s.Gap
		if p > min(c.Pos, at) && p < max(c.Pos, at) {
			between++
		}
		if (p-c.Pos)*c.Dir > 0 {
			ahead++
			if far(p, c.Pos) > far(turn, c.Pos) {
				turn = p
			}
		}
		on = on || (p-at)*c.Dir > 0
	}
	time := s.Open + s.Transfer + s.Dwell + s.Close
	way := (at - c.Pos) * c.Dir
	if c.Dir == 0 || ahead == 0 || way >= 0 && (dir == c.Dir || !on) {
		return eta.Door(s, c) + far(c.Pos, at) + time*between
	}
	sum := eta.Door(s, c) + far(c.Pos, turn) + far(turn, at) + time*ahead
	if way < 0 {
		sum += time * between
	}
	return sum
}

// P34.2
func TestDrawn(t *testing.T) {
	for seed := range uint64(30000) {
		r := rand.New(rand.NewPCG(seed, 34))
		s := api.Scenario{Floors: 2 + r.IntN(9), Gap: 1 + r.IntN(3), Open: 1 + r.IntN(9), Dwell: 1 + r.IntN(9), Close: 1 + r.IntN(9), Transfer: 1 + r.IntN(9)}
		if seed%10 == 0 {
			s.Floors = api.MaxFloors
		}
		c := api.Car{Pos: r.IntN((s.Floors-1)*s.Gap + 1), Dir: r.IntN(3) - 1, Mode: api.Mode(r.IntN(5)), Left: 1 + r.IntN(9)}
		var stops api.Set
		for range r.IntN(5) {
			stops = bits.With(stops, r.IntN(s.Floors))
		}
		floor, dir := r.IntN(s.Floors), 1-2*r.IntN(2)
		if got, want := eta.Of(s, c, stops, floor, dir), of(s, c, stops, floor, dir); got != want {
			t.Fatalf("Of %v, %v, %d, %d: %d; want %d", c, stops, floor, dir, got, want)
		}
	}
}

// P34.2
func TestBest(t *testing.T) {
	near, middle, away := api.Car{Pos: 8}, api.Car{Pos: 4}, api.Car{Pos: 18}
	for _, c := range []struct {
		name  string
		cars  []api.Car
		stops []api.Set
		want  int
	}{
		{"none", nil, []api.Set{bits.Of(1)}, -1},
		{"one", []api.Car{away}, nil, 0},
		{"two that are as soon", []api.Car{{Pos: 6}, {Pos: 14}}, nil, 0},
		{"the sooner one", []api.Car{middle, away, near}, nil, 2},
		{"the sooner one has a stop", []api.Car{middle, {Pos: 6}}, []api.Set{bits.Of(), bits.Of(4)}, 0},
		{"each has its own stops", []api.Car{middle, {Pos: 6}}, []api.Set{bits.Of(4), bits.Of()}, 1},
		{"stops for the first one alone", []api.Car{middle, {Pos: 6}}, []api.Set{bits.Of(3)}, 1},
		{"more stops than cars", []api.Car{middle}, []api.Set{bits.Of(3), bits.Of(3)}, 0},
		{"one keeps its door open", []api.Car{{Pos: 8, Mode: api.Open, Left: 9}, middle}, nil, 1},
	} {
		if got := eta.Best(house, c.cars, c.stops, 5, 1); got != c.want {
			t.Errorf("%s: %d; want %d", c.name, got, c.want)
		}
	}
}

// P1: at any argument all of it ends.
func TestEnds(t *testing.T) {
	numbers := []int{math.MinInt, -1, 0, 3, math.MaxInt}
	full := bits.Range(0, 128)
	for _, a := range numbers {
		for _, b := range numbers {
			s := api.Scenario{Floors: a, Gap: b, Open: a, Close: b}
			for _, dir := range numbers {
				c := api.Car{Pos: b, Dir: dir, Mode: api.Mode(a), Left: a}
				eta.Door(s, c)
				eta.Of(s, c, full, a, b)
				eta.Best(s, []api.Car{c, c}, []api.Set{full}, b, a)
			}
		}
	}
}
