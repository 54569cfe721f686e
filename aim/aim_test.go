package aim_test

import (
	"math"
	"math/rand/v2"
	"testing"

	"hoistway/aim"
	"hoistway/api"
	"hoistway/bits"
	"hoistway/eta"
)

// house has a stop's time so great that an answer tells how many stops it has.
var house = api.Scenario{Floors: 10, Gap: 2, Cars: 3, Capacity: 8, Open: 200, Dwell: 300, Close: 100, Transfer: 400}

// stop is a stop's time in house.
const stop = 1000

func passenger(from, to int) api.Passenger {
	return api.Passenger{Id: 5, Tick: 77, From: from, To: to}
}

// riders: a car with so many riders.
func riders(c api.Car, many int) api.Car {
	for id := range many {
		c.Riders = append(c.Riders, api.Rider{Id: id, To: 3})
	}
	return c
}

// P41.1: each case that the chapter names, by itself.
func TestCost(t *testing.T) {
	for _, c := range []struct {
		name     string
		car      api.Car
		stops    api.Set
		from, to int
		want     int
	}{
		{"nothing, here", api.Car{Pos: 4}, bits.Of(), 2, 5, 2 * stop},
		{"nothing, elsewhere", api.Car{Pos: 4}, bits.Of(), 9, 5, 14 + 2*stop},
		{"From is a stop", api.Car{Pos: 4}, bits.Of(2), 2, 5, stop},
		{"To is a stop", api.Car{Pos: 4}, bits.Of(5), 2, 5, stop},
		{"both are stops", api.Car{Pos: 4}, bits.Of(2, 5), 2, 5, 0},
		{"stops between them", api.Car{Pos: 4}, bits.Of(1, 3, 4, 7), 2, 5, 4 * stop},
		{"stops between them, and both", api.Car{Pos: 10}, bits.Of(2, 3, 4, 5, 6), 5, 2, 2 * stop},
		{"stops on the way to From", api.Car{}, bits.Of(1, 2), 3, 5, 6 + 2*stop + 2*stop},
		{"riders", riders(api.Car{Pos: 4}, 7), bits.Of(), 2, 5, 2*stop + 7},
		{"its way, as it goes", api.Car{Dir: 1}, bits.Of(6), 3, 5, 6 + 2*stop},
		{"its way, but it goes on, and the other way", api.Car{Dir: 1}, bits.Of(6), 3, 1, 12 + 6 + stop + 2*stop},
		{"an open door", api.Car{Pos: 4, Mode: api.Open, Left: 9}, bits.Of(), 2, 5, 409 + 2*stop},
	} {
		if got := aim.Cost(house, c.car, c.stops, passenger(c.from, c.to)); got != c.want {
			t.Errorf("%s: %d; want %d", c.name, got, c.want)
		}
	}
}

// cost is P41.1, word by word.
func cost(s api.Scenario, c api.Car, stops api.Set, p api.Passenger) int {
	dir := 1
	if p.To < p.From {
		dir = -1
	}
	sum := eta.Of(s, c, stops, p.From, dir) + len(c.Riders)
	for floor := range 128 {
		end := floor == p.From || floor == p.To
		between := floor > min(p.From, p.To) && floor < max(p.From, p.To)
		if end && !bits.Has(stops, floor) || between && bits.Has(stops, floor) {
			sum += s.Open + s.Transfer + s.Dwell + s.Close
		}
	}
	return sum
}

// P41.1
func TestDrawn(t *testing.T) {
	for seed := range uint64(10000) {
		r := rand.New(rand.NewPCG(seed, 41))
		s := api.Scenario{Floors: 2 + r.IntN(9), Gap: 1 + r.IntN(3), Open: 1 + r.IntN(9), Dwell: 1 + r.IntN(9), Close: 1 + r.IntN(9), Transfer: 1 + r.IntN(9)}
		if seed%10 == 0 {
			s.Floors = api.MaxFloors
		}
		p := passenger(r.IntN(s.Floors), 0)
		p.To = (p.From + 1 + r.IntN(s.Floors-1)) % s.Floors
		var cars []api.Car
		var stops []api.Set
		best, least := -1, 0
		for i := range r.IntN(5) {
			c := riders(api.Car{Pos: r.IntN((s.Floors-1)*s.Gap + 1), Dir: r.IntN(3) - 1, Mode: api.Mode(r.IntN(5)), Left: 1 + r.IntN(9)}, r.IntN(4))
			var own api.Set
			for range r.IntN(5) {
				own = bits.With(own, r.IntN(s.Floors))
			}
			cars, stops = append(cars, c), append(stops, own)
			want := cost(s, c, own, p)
			if got := aim.Cost(s, c, own, p); got != want {
				t.Fatalf("seed %d: Cost of %v, %v, %v: %d; want %d", seed, c, own, p, got, want)
			}
			if best < 0 || want < least {
				best, least = i, want
			}
		}
		if got := aim.Best(s, cars, stops, p); got != best {
			t.Fatalf("seed %d: Best: %d; want %d", seed, got, best)
		}
	}
}

// P41.1
func TestBest(t *testing.T) {
	for _, c := range []struct {
		name  string
		cars  []api.Car
		stops []api.Set
		want  int
	}{
		{"none", nil, nil, -1},
		{"none, but stops", []api.Car{}, []api.Set{bits.Of(1)}, -1},
		{"one", []api.Car{{Pos: 18}}, nil, 0},
		{"two that are as near", []api.Car{{Pos: 6}, {Pos: 14}}, nil, 0},
		{"the nearer one", []api.Car{{Pos: 4}, {Pos: 18}, {Pos: 8}}, nil, 2},
		{"the one with fewer riders", []api.Car{riders(api.Car{Pos: 8}, 2), riders(api.Car{Pos: 8}, 1)}, nil, 1},
		{"the one that stops there, be it farther", []api.Car{{Pos: 10}, {Pos: 0}}, []api.Set{bits.Of(), bits.Of(5)}, 1},
		{"each has its own stops", []api.Car{{Pos: 10}, {Pos: 0}}, []api.Set{bits.Of(5), bits.Of()}, 0},
		{"stops for the first one alone", []api.Car{{Pos: 10}, {Pos: 12}}, []api.Set{bits.Of(6)}, 1},
		{"more stops than cars", []api.Car{{Pos: 8}}, []api.Set{bits.Of(3), bits.Of(3)}, 0},
	} {
		if got := aim.Best(house, c.cars, c.stops, passenger(5, 8)); got != c.want {
			t.Errorf("%s: %d; want %d", c.name, got, c.want)
		}
	}
}

// The chapter's example.
func TestExample(t *testing.T) {
	s := api.Scenario{Floors: 3, Gap: 1, Open: 1, Dwell: 1, Close: 1, Transfer: 1}
	if got := aim.Cost(s, api.Car{}, api.Set{}, passenger(0, 2)); got != 8 {
		t.Error(got)
	}
}

// P1: at any argument all of it ends.
func TestEnds(t *testing.T) {
	numbers := []int{math.MinInt, -1, 0, 3, math.MaxInt}
	full := bits.Range(0, 128)
	for _, a := range numbers {
		for _, b := range numbers {
			s := api.Scenario{Floors: a, Gap: b, Open: a, Close: b}
			for _, dir := range numbers {
				c := api.Car{Pos: b, Dir: dir, Mode: api.Mode(a), Left: a}
				aim.Cost(s, c, full, passenger(a, b))
				aim.Cost(s, c, api.Set{}, passenger(b, a))
				aim.Best(s, []api.Car{c, c}, []api.Set{full}, passenger(a, b))
			}
		}
	}
}
