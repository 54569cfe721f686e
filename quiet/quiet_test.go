package quiet_test

import (
	"math"
	"math/rand/v2"
	"slices"
	"testing"

	"hoistway/api"
	"hoistway/bits"
	"hoistway/car"
	"hoistway/queue"
	"hoistway/quiet"
)

var house = api.Scenario{Floors: 10, Gap: 3, Cars: 1, Capacity: 2, Open: 11, Dwell: 22, Close: 33, Transfer: 44, Dispatcher: api.Collective}

// here is the floor 5 of house, in places.
const here = 5 * 3

// ride: riders to some floors.
func ride(to ...int) []api.Rider {
	var l []api.Rider
	for id, floor := range to {
		l = append(l, api.Rider{Id: id, To: floor})
	}
	return l
}

func same(a, b api.Car) bool {
	return a.Pos == b.Pos && a.Dir == b.Dir && a.Mode == b.Mode && a.Left == b.Left && a.Waited == b.Waited && slices.Equal(a.Riders, b.Riders)
}

// P44.1: each case that the chapter names, by itself.
func TestNext(t *testing.T) {
	none := bits.Of()
	for _, c := range []struct {
		name     string
		car      api.Car
		up, down api.Set
		want     int
		ok       bool
	}{
		{"opening", api.Car{Pos: here, Dir: 1, Mode: api.Opening, Left: 7}, none, none, 7, true},
		{"opening, the last tick", api.Car{Pos: here, Mode: api.Opening, Left: 1}, bits.Of(5), bits.Of(5), 1, true},
		{"open", api.Car{Pos: here, Mode: api.Open, Left: 22, Waited: true}, none, none, 22, true},
		{"open, whoever calls", api.Car{Pos: here, Mode: api.Open, Left: 9, Riders: ride(5)}, bits.Of(5), bits.Of(2), 9, true},
		{"closing", api.Car{Pos: here, Dir: -1, Mode: api.Closing, Left: 64}, bits.Of(5), none, 64, true},
		{"moving to a call up", api.Car{Pos: 1, Dir: 1, Mode: api.Moving}, bits.Of(5), none, 15, true},
		{"moving to a call down, the last one", api.Car{Pos: 1, Dir: 1, Mode: api.Moving}, none, bits.Of(5), 15, true},
		{"moving on, by a call down", api.Car{Pos: 1, Dir: 1, Mode: api.Moving}, bits.Of(7), bits.Of(5), 21, true},
		{"moving down to a call", api.Car{Pos: 29, Dir: -1, Mode: api.Moving}, none, bits.Of(5), 15, true},
		{"moving down, by a call up", api.Car{Pos: 29, Dir: -1, Mode: api.Moving}, bits.Of(5), bits.Of(4), 18, true},
		{"moving to where a rider wants out", api.Car{Pos: 13, Dir: 1, Mode: api.Moving, Riders: ride(9, 6)}, none, none, 6, true},
		{"moving, full, by a call", api.Car{Pos: 13, Dir: 1, Mode: api.Moving, Riders: ride(9, 8)}, bits.Of(6), none, 12, true},
		{"moving, at a floor where it stops", api.Car{Pos: here, Dir: 1, Mode: api.Moving}, bits.Of(5), none, 1, true},
		{"moving, at a floor where it turns", api.Car{Pos: here, Dir: 1, Mode: api.Moving}, bits.Of(3), none, 1, true},
		{"moving, and nothing is to do: to the next floor", api.Car{Pos: 13, Dir: 1, Mode: api.Moving}, none, none, 3, true},
		{"moving, and all lies behind: to the next floor", api.Car{Pos: 13, Dir: -1, Mode: api.Moving}, none, bits.Of(8), 2, true},
		{"idle", api.Car{Pos: here}, none, none, 0, false},
		{"idle, a call up here", api.Car{Pos: here}, bits.Of(5), none, 1, true},
		{"idle, a call down here", api.Car{Pos: here}, none, bits.Of(5), 1, true},
		{"idle, a call above", api.Car{Pos: here}, none, bits.Of(6), 1, true},
		{"idle, a call below", api.Car{Pos: here}, bits.Of(4), none, 1, true},
		{"idle, a rider who wants out here", api.Car{Pos: here, Riders: ride(5)}, none, none, 1, true},
		{"idle, a rider who wants on", api.Car{Pos: here, Riders: ride(9)}, none, none, 1, true},
		{"idle, full: no call is seen", api.Car{Pos: here, Riders: ride(200, 200)}, bits.Of(5, 6), bits.Of(4), 0, false},
		{"idle, with a direction", api.Car{Pos: here, Dir: 1}, none, none, 1, true},
		{"idle, with a direction down", api.Car{Pos: here, Dir: -1}, none, none, 1, true},
		{"idle, with what was left", api.Car{Pos: here, Left: 9, Waited: true}, none, none, 0, false},
		{"no such mode", api.Car{Pos: here, Mode: 5, Left: 9}, bits.Of(5), none, 0, false},
		{"no such mode, below 0", api.Car{Pos: here, Mode: -1, Left: 9}, bits.Of(5), none, 0, false},
	} {
		if n, ok := quiet.Next(house, c.car, c.up, c.down); n != c.want || ok != c.ok {
			t.Errorf("%s: %d, %v; want %d, %v", c.name, n, ok, c.want, c.ok)
		}
	}
}

// P44.2: each case that the chapter names, by itself.
func TestAfter(t *testing.T) {
	two := ride(9, 1)
	for _, c := range []struct {
		name string
		car  api.Car
		k    int
		want api.Car
	}{
		{"opening", api.Car{Pos: here, Dir: 1, Mode: api.Opening, Left: 9, Riders: two}, 4, api.Car{Pos: here, Dir: 1, Mode: api.Opening, Left: 5, Riders: two}},
		{"open", api.Car{Pos: here, Mode: api.Open, Left: 9, Waited: true}, 8, api.Car{Pos: here, Mode: api.Open, Left: 1, Waited: true}},
		{"closing", api.Car{Pos: here, Dir: -1, Mode: api.Closing, Left: 64}, 63, api.Car{Pos: here, Dir: -1, Mode: api.Closing, Left: 1}},
		{"moving up", api.Car{Pos: 1, Dir: 1, Mode: api.Moving, Left: 9, Riders: two}, 14, api.Car{Pos: 15, Dir: 1, Mode: api.Moving, Left: 9, Riders: two}},
		{"moving down", api.Car{Pos: 27, Dir: -1, Mode: api.Moving, Waited: true}, 27, api.Car{Dir: -1, Mode: api.Moving, Waited: true}},
		{"idle", api.Car{Pos: here, Left: 3}, 1 << 20, api.Car{Pos: here, Left: 3}},
		{"idle, with a direction", api.Car{Pos: here, Dir: 1, Riders: two}, 7, api.Car{Pos: here, Dir: 1, Riders: two}},
		{"no tick, open", api.Car{Pos: here, Mode: api.Open, Left: 9}, 0, api.Car{Pos: here, Mode: api.Open, Left: 9}},
		{"no tick, moving", api.Car{Pos: 4, Dir: 1, Mode: api.Moving}, 0, api.Car{Pos: 4, Dir: 1, Mode: api.Moving}},
		{"fewer than no tick, open", api.Car{Pos: here, Mode: api.Open, Left: 9}, -2, api.Car{Pos: here, Mode: api.Open, Left: 9}},
		{"fewer than no tick, moving", api.Car{Pos: 4, Dir: 1, Mode: api.Moving}, math.MinInt, api.Car{Pos: 4, Dir: 1, Mode: api.Moving}},
		{"no such mode", api.Car{Pos: 4, Dir: 1, Mode: 5, Left: 9}, 3, api.Car{Pos: 4, Dir: 1, Mode: 5, Left: 9}},
	} {
		if got := quiet.After(c.car, c.k); !same(got, c.want) {
			t.Errorf("%s: %v; want %v", c.name, got, c.want)
		}
	}
}

// P44.2: the riders that are answered are new memory.
func TestNew(t *testing.T) {
	for mode := range api.Mode(5) {
		c := api.Car{Pos: here, Mode: mode, Left: 9, Riders: ride(7, 8)}
		quiet.After(c, 1).Riders[0].To = 3
		if !slices.Equal(c.Riders, ride(7, 8)) {
			t.Errorf("mode %d: %v", mode, c.Riders)
		}
	}
}

// drawn: a world of some floors, and its first car does anything.
func drawn(r *rand.Rand) *car.World {
	s := api.Scenario{Floors: 2 + r.IntN(8), Gap: 1 + r.IntN(4), Cars: 2, Capacity: 1 + r.IntN(3), Open: 1 + r.IntN(9), Dwell: 1 + r.IntN(9), Close: 1 + r.IntN(9), Transfer: 1 + r.IntN(9), Dispatcher: api.Dispatcher(1 + r.IntN(4))}
	w := car.New(s)
	c := &w.Cars[0]
	c.Mode, c.Dir = api.Mode(r.IntN(5)), r.IntN(3)-1
	c.Pos = r.IntN(s.Floors) * s.Gap
	if c.Mode == api.Moving {
		c.Pos, c.Dir = r.IntN((s.Floors-1)*s.Gap+1), 1-2*r.IntN(2)
	}
	if car.Door(*c) {
		c.Left, c.Waited = 1+r.IntN(9), r.IntN(2) == 1
	}
	for range max(0, r.IntN(2*s.Capacity+1)-s.Capacity) {
		c.Riders = append(c.Riders, api.Rider{Id: len(w.Trips), To: r.IntN(s.Floors)})
		w.Trips = append(w.Trips, api.Trip{Id: len(w.Trips), Car: 0, Alight: -1})
	}
	for range max(0, r.IntN(9)-4) {
		x := api.Waiter{Id: len(w.Trips), From: r.IntN(s.Floors), Car: -1}
		x.To = (x.From + 1 + r.IntN(s.Floors-1)) % s.Floors
		if s.Dispatcher == api.Destination {
			x.Car = r.IntN(s.Cars)
		} else {
			w.Hall.Send(x.From, queue.Of(x).Dir, r.IntN(s.Cars))
		}
		w.Hall.Come(x)
		w.Trips = append(w.Trips, api.Trip{Id: x.Id, From: x.From, To: x.To, Car: -1, Board: -1, Alight: -1})
	}
	return w
}

// goesOn: is a car, a tick later, what it is when it only goes on?
func goesOn(c, later api.Car) bool {
	if c.Mode == api.Moving {
		c.Pos += c.Dir
	} else if c.Mode != api.Idle {
		c.Left--
	}
	return c.Left >= 0 && (c.Left > 0 || !car.Door(c)) && same(c, later)
}

// still: is all but the first car as it was?
func still(a, b api.State) bool {
	return a.Tick == b.Tick && slices.EqualFunc(a.Cars[1:], b.Cars[1:], same) && slices.Equal(a.Waiting, b.Waiting) && slices.Equal(a.Calls, b.Calls) && slices.Equal(a.Trips, b.Trips)
}

// P44.1, P44.3: of drawn worlds: up to the tick that Next tells a car is what After tells, and nothing else changes; in that tick it does something else.
func TestSteps(t *testing.T) {
	var many [5]int
	never := 0
	for seed := range uint64(30000) {
		w := drawn(rand.New(rand.NewPCG(seed, 44)))
		first, state := w.Cars[0], w.State()
		many[first.Mode]++
		n, ok := quiet.Next(w.S, first, w.Hall.Lands(0, 1), w.Hall.Lands(0, -1))
		if !ok {
			never++
			if n != 0 {
				t.Fatalf("seed %d: never, and %d", seed, n)
			}
			n = 1 << 8
		}
		for k := range n {
			if got := quiet.After(first, k); !same(got, w.Cars[0]) {
				t.Fatalf("seed %d: %d ticks behind %v: %v; want %v", seed, k, first, got, w.Cars[0])
			}
			if got := w.State(); !still(got, state) {
				t.Fatalf("seed %d: %d ticks behind %v: %v; want %v", seed, k, first, got, state)
			}
			before := w.Cars[0]
			gone := w.Step(0)
			last := ok && k == n-1
			if goesOn(before, w.Cars[0]) == last || gone && !last {
				t.Fatalf("seed %d: the tick %d of %d of %v: %v; then %v", seed, k+1, n, first, before, w.Cars[0])
			}
		}
	}
	for mode, n := range many {
		if n < 1000 {
			t.Errorf("mode %d: %d alone", mode, n)
		}
	}
	if never < 100 {
		t.Errorf("never: %d alone", never)
	}
}

// The chapter's example.
func TestExample(t *testing.T) {
	if n, ok := quiet.Next(house, api.Car{Mode: api.Open, Left: 5}, api.Set{}, api.Set{}); n != 5 || !ok {
		t.Error(n, ok)
	}
}

// P1: at any argument all of it ends.
func TestEnds(t *testing.T) {
	numbers := []int{math.MinInt, -7, -1, 0, 1, 7, 1000, math.MaxInt}
	full := bits.Range(0, 128)
	for _, a := range numbers {
		for _, b := range numbers {
			s := api.Scenario{Floors: a, Gap: b, Capacity: a, Open: b}
			for _, dir := range numbers {
				for mode := api.Mode(-1); mode < 6; mode++ {
					c := api.Car{Pos: a, Dir: dir, Mode: mode, Left: b, Riders: ride(a, b)}
					for _, up := range []api.Set{{}, full, bits.Of(0), bits.Of(127)} {
						quiet.Next(s, c, up, full)
						quiet.Next(s, c, up, api.Set{})
					}
					quiet.After(c, a)
					quiet.After(c, b)
				}
			}
		}
	}
}
