package dispatch_test

import (
	"math"
	"math/rand/v2"
	"slices"
	"testing"

	"hoistway/aim"
	"hoistway/api"
	"hoistway/bits"
	"hoistway/car"
	"hoistway/dispatch"
	"hoistway/eta"
	"hoistway/near"
	"hoistway/queue"
	"hoistway/sector"
)

var house = api.Scenario{Floors: 10, Gap: 2, Cars: 4, Capacity: 2, Open: 3, Dwell: 5, Close: 2, Transfer: 4}

// by: house, by a dispatcher.
func by(d api.Dispatcher) api.Scenario {
	s := house
	s.Dispatcher = d
	return s
}

// ride: riders to some floors.
func ride(to ...int) []api.Rider {
	var l []api.Rider
	for id, floor := range to {
		l = append(l, api.Rider{Id: id, To: floor})
	}
	return l
}

func passenger(id, from, to int) api.Passenger {
	return api.Passenger{Id: id, Tick: 70 + id, From: from, To: to}
}

func same(a, b api.Car) bool {
	return a.Pos == b.Pos && a.Dir == b.Dir && a.Mode == b.Mode && a.Left == b.Left && a.Waited == b.Waited && slices.Equal(a.Riders, b.Riders)
}

func sameState(a, b api.State) bool {
	return a.Tick == b.Tick && slices.EqualFunc(a.Cars, b.Cars, same) && slices.Equal(a.Waiting, b.Waiting) && slices.Equal(a.Calls, b.Calls) && slices.Equal(a.Trips, b.Trips)
}

// P45.1: riders and calls of each car, for both ways, be it full or not.
func TestStops(t *testing.T) {
	w := car.New(by(api.Collective))
	w.Cars[0].Riders = ride(9, 3)
	w.Cars[2].Riders = ride(1)
	for _, c := range []api.Call{{Floor: 4, Dir: 1, Car: 0}, {Floor: 3, Dir: -1, Car: 0}, {Floor: 0, Dir: 1, Car: 0}, {Floor: 4, Dir: -1, Car: 1}, {Floor: 7, Dir: -1, Car: 1}, {Floor: 8, Dir: 1, Car: -1}} {
		w.Hall.Send(c.Floor, c.Dir, c.Car)
	}
	w.Hall.Come(api.Waiter{Id: 9, From: 5, To: 6, Car: -1})
	before := w.State()
	want := []api.Set{bits.Of(0, 3, 4, 9), bits.Of(4, 7), bits.Of(1), {}}
	if got := dispatch.Stops(w); !slices.Equal(got, want) {
		t.Errorf("%v; want %v", got, want)
	}
	dispatch.Stops(w)[0] = api.Set{}
	if got := dispatch.Stops(w); !slices.Equal(got, want) || !sameState(w.State(), before) {
		t.Errorf("%v, %v", got, w.State())
	}
}

// P45.1: under Destination the floors of those who wait for the car, but not where they want to.
func TestStopsWaiting(t *testing.T) {
	w := car.New(by(api.Destination))
	w.Cars[1].Riders = ride(2, 2)
	for _, x := range []api.Waiter{{Id: 3, From: 5, To: 6, Car: 1}, {Id: 4, From: 8, To: 0, Car: 1}, {Id: 5, From: 9, To: 0, Car: 3}, {Id: 6, From: 7, To: 0, Car: -1}} {
		w.Hall.Come(x)
	}
	want := []api.Set{{}, bits.Of(2, 5, 8), {}, bits.Of(9)}
	if got := dispatch.Stops(w); !slices.Equal(got, want) {
		t.Errorf("%v; want %v", got, want)
	}
}

// asked: a world in which each dispatcher sends another car to floor 4, up to 6.
func asked(d api.Dispatcher) *car.World {
	w := car.New(by(d))
	// The nearest one, but its door is open for long.
	w.Cars[0] = api.Car{Pos: 8, Mode: api.Opening, Left: 3}
	w.Cars[1] = api.Car{Pos: 0, Dir: -1, Mode: api.Moving, Riders: ride(0)}
	// The one that is there first.
	w.Cars[2] = api.Car{Pos: 12}
	// A bit farther, but it stops at both floors anyway.
	w.Cars[3] = api.Car{Pos: 2, Riders: ride(4, 6)}
	return w
}

// P45.1
func TestChoose(t *testing.T) {
	for d, want := range map[api.Dispatcher]int{api.Collective: 0, api.Sectors: 1, api.Soonest: 2, api.Destination: 3} {
		w := asked(d)
		before := w.State()
		if got := dispatch.Choose(w, passenger(0, 4, 6)); got != want {
			t.Errorf("dispatcher %d: %d; want %d", d, got, want)
		}
		if !sameState(w.State(), before) {
			t.Errorf("dispatcher %d: %v", d, w.State())
		}
	}
}

// P45.1: by the way to To.
func TestChooseWay(t *testing.T) {
	for _, c := range []struct {
		name     string
		d        api.Dispatcher
		cars     []api.Car
		from, to int
		want     int
	}{
		{"Collective: as it goes", api.Collective, []api.Car{{Pos: 4, Dir: 1, Mode: api.Moving}, {Pos: 4, Dir: -1, Mode: api.Moving}}, 5, 6, 0},
		{"Collective: up, from below", api.Collective, []api.Car{{Pos: 8, Dir: -1, Mode: api.Moving}, {Pos: 0, Dir: 1, Mode: api.Moving}}, 2, 6, 1},
		{"Collective: down, from above", api.Collective, []api.Car{{Pos: 8, Dir: -1, Mode: api.Moving}, {Pos: 0, Dir: 1, Mode: api.Moving}}, 2, 1, 0},
		{"Collective: as far", api.Collective, []api.Car{{Pos: 8}, {Pos: 4}}, 3, 6, 0},
		{"Soonest: up, as it goes on", api.Soonest, []api.Car{{Pos: 0, Dir: 1, Mode: api.Moving, Riders: ride(9)}, {Pos: 18}}, 4, 5, 0},
		{"Soonest: down, as it goes on", api.Soonest, []api.Car{{Pos: 0, Dir: 1, Mode: api.Moving, Riders: ride(9)}, {Pos: 18}}, 4, 3, 1},
		{"Soonest: as soon", api.Soonest, []api.Car{{Pos: 8}, {Pos: 4}}, 3, 6, 0},
		{"Destination: up, as it goes on", api.Destination, []api.Car{{Pos: 0, Dir: 1, Mode: api.Moving, Riders: ride(9)}, {Pos: 18}}, 4, 5, 0},
		{"Destination: down, as it goes on", api.Destination, []api.Car{{Pos: 0, Dir: 1, Mode: api.Moving, Riders: ride(9)}, {Pos: 18}}, 4, 3, 1},
		{"Destination: as soon", api.Destination, []api.Car{{Pos: 8}, {Pos: 4}}, 3, 6, 0},
		{"Sectors: wherever the cars are", api.Sectors, []api.Car{{Pos: 18}, {Pos: 0}}, 9, 0, 1},
		{"Sectors: by From, not by To", api.Sectors, []api.Car{{Pos: 18}, {Pos: 0}}, 4, 9, 0},
	} {
		s := by(c.d)
		s.Cars = 2
		w := car.New(s)
		w.Cars = c.cars
		if got := dispatch.Choose(w, passenger(0, c.from, c.to)); got != c.want {
			t.Errorf("%s: %d; want %d", c.name, got, c.want)
		}
	}
}

// P45.1: a car's calls count, even where it is full, and so do those who wait for it.
func TestChooseStops(t *testing.T) {
	s := by(api.Soonest)
	s.Cars = 2
	w := car.New(s)
	w.Cars = []api.Car{{Pos: 2, Dir: 1, Mode: api.Moving, Riders: ride(9, 9)}, {Pos: 18}}
	if got := dispatch.Choose(w, passenger(5, 5, 8)); got != 0 {
		t.Error(got)
	}
	w.Hall.Send(3, 1, 0)
	if got := dispatch.Choose(w, passenger(5, 5, 8)); got != 1 {
		t.Error(got)
	}
	s.Dispatcher = api.Destination
	w = car.New(s)
	w.Cars = []api.Car{{Pos: 10}, {Pos: 10}}
	w.Hall.Come(api.Waiter{Id: 0, From: 5, To: 6, Car: 1})
	if got := dispatch.Choose(w, passenger(5, 5, 8)); got != 1 {
		t.Error(got)
	}
}

// P45.2: under a dispatcher of calls: a trip, one who waits for any car, and a call, if there is none yet.
func TestAdmit(t *testing.T) {
	for d, want := range map[api.Dispatcher]int{api.Collective: 0, api.Sectors: 1, api.Soonest: 2} {
		w := asked(d)
		w.Tick = 77
		cars := w.State().Cars
		p, other, down := passenger(0, 4, 6), passenger(1, 4, 9), passenger(2, 9, 0)
		dispatch.Admit(w, p)
		state := api.State{
			Tick: 77, Cars: cars,
			Waiting: []api.Waiter{{Id: 0, From: 4, To: 6, Car: -1}},
			Calls:   []api.Call{{Floor: 4, Dir: 1, Car: want}},
			Trips:   []api.Trip{{Id: 0, Arrive: 70, From: 4, To: 6, Car: -1, Board: -1, Alight: -1}},
		}
		if got := w.State(); !sameState(got, state) {
			t.Errorf("dispatcher %d: %v; want %v", d, got, state)
		}
		// Whoever is sent now: the call has its car from its making on.
		w.Cars = []api.Car{{Pos: 18}, {Pos: 18}, {Pos: 18}, {Pos: 8}}
		dispatch.Admit(w, other)
		dispatch.Admit(w, down)
		last := map[api.Dispatcher]int{api.Collective: 0, api.Sectors: 3, api.Soonest: 0}[d]
		state = api.State{
			Tick: 77, Cars: w.Cars,
			Waiting: append(state.Waiting, api.Waiter{Id: 1, From: 4, To: 9, Car: -1}, api.Waiter{Id: 2, From: 9, To: 0, Car: -1}),
			Calls:   append(state.Calls, api.Call{Floor: 9, Dir: -1, Car: last}),
			Trips:   append(state.Trips, api.Trip{Id: 1, Arrive: 71, From: 4, To: 9, Car: -1, Board: -1, Alight: -1}, api.Trip{Id: 2, Arrive: 72, From: 9, To: 0, Car: -1, Board: -1, Alight: -1}),
		}
		if got := w.State(); !sameState(got, state) {
			t.Errorf("dispatcher %d: %v; want %v", d, got, state)
		}
	}
}

// P45.2: a floor has a call for each way, and a new one when the one there was is no more.
func TestAdmitCalls(t *testing.T) {
	w := car.New(by(api.Collective))
	dispatch.Admit(w, passenger(0, 5, 6))
	dispatch.Admit(w, passenger(1, 5, 4))
	want := []api.Call{{Floor: 5, Dir: 1, Car: 2}, {Floor: 5, Dir: -1, Car: 2}}
	if got := w.Hall.Calls(); !slices.Equal(got, want) {
		t.Errorf("%v; want %v", got, want)
	}
	w.Hall.Take(queue.Key{Floor: 5, Dir: 1, Car: -1})
	w.Hall.Clear(5, 1)
	w.Cars[2].Pos, w.Cars[3].Pos = 18, 10
	dispatch.Admit(w, passenger(2, 5, 9))
	want = []api.Call{{Floor: 5, Dir: -1, Car: 2}, {Floor: 5, Dir: 1, Car: 3}}
	if got := w.Hall.Calls(); !slices.Equal(got, want) {
		t.Errorf("%v; want %v", got, want)
	}
}

// P45.2: under Destination: each one waits for a car of their own, and there is no call.
func TestAdmitDestination(t *testing.T) {
	w := asked(api.Destination)
	cars := w.State().Cars
	dispatch.Admit(w, passenger(0, 4, 6))
	w.Cars[3].Riders, cars[3].Riders = ride(6, 6), ride(6, 6)
	// It stops at 4 yet, but for the first one alone.
	dispatch.Admit(w, passenger(1, 4, 5))
	want := api.State{
		Cars:    cars,
		Waiting: []api.Waiter{{Id: 0, From: 4, To: 6, Car: 3}, {Id: 1, From: 4, To: 5, Car: 3}},
		Trips:   []api.Trip{{Id: 0, Arrive: 70, From: 4, To: 6, Car: -1, Board: -1, Alight: -1}, {Id: 1, Arrive: 71, From: 4, To: 5, Car: -1, Board: -1, Alight: -1}},
	}
	if got := w.State(); !sameState(got, want) {
		t.Errorf("%v; want %v", got, want)
	}
}

// choose is P45.1, word by word.
func choose(w *car.World, p api.Passenger) int {
	dir := 1
	if p.To < p.From {
		dir = -1
	}
	var stops []api.Set
	for i, c := range w.Cars {
		var s api.Set
		for floor := range 128 {
			wants := slices.ContainsFunc(c.Riders, func(r api.Rider) bool { return r.To == floor })
			if wants || bits.Has(w.Hall.Lands(i, 1), floor) || bits.Has(w.Hall.Lands(i, -1), floor) {
				s = bits.With(s, floor)
			}
		}
		stops = append(stops, s)
	}
	switch w.S.Dispatcher {
	case api.Collective:
		return near.Best(w.S, w.Cars, p.From, dir)
	case api.Sectors:
		return sector.Car(w.S.Floors, w.S.Cars, p.From)
	case api.Soonest:
		return eta.Best(w.S, w.Cars, stops, p.From, dir)
	default:
		return aim.Best(w.S, w.Cars, stops, p)
	}
}

// admit is P45.2, word by word, of a world's state.
func admit(x api.State, destination bool, chosen int, p api.Passenger) api.State {
	x.Trips = append(x.Trips, api.Trip{Id: p.Id, Arrive: p.Tick, From: p.From, To: p.To, Car: -1, Board: -1, Alight: -1})
	if destination {
		x.Waiting = append(x.Waiting, api.Waiter{Id: p.Id, From: p.From, To: p.To, Car: chosen})
		return x
	}
	x.Waiting = append(x.Waiting, api.Waiter{Id: p.Id, From: p.From, To: p.To, Car: -1})
	dir := 1
	if p.To < p.From {
		dir = -1
	}
	if !slices.ContainsFunc(x.Calls, func(c api.Call) bool { return c.Floor == p.From && c.Dir == dir }) {
		x.Calls = append(x.Calls, api.Call{Floor: p.From, Dir: dir, Car: chosen})
	}
	return x
}

// P45.1, P45.2: of drawn worlds, while the cars go. P2: two worlds that are alike come to the same.
func TestDrawn(t *testing.T) {
	for seed := range uint64(1500) {
		r := rand.New(rand.NewPCG(seed, 45))
		s := api.Scenario{Floors: 2 + r.IntN(9), Gap: 1 + r.IntN(3), Cars: 1 + r.IntN(4), Capacity: 1 + r.IntN(3), Open: 1 + r.IntN(4), Dwell: 1 + r.IntN(4), Close: 1 + r.IntN(4), Transfer: 1 + r.IntN(4), Dispatcher: api.Dispatcher(1 + r.IntN(4))}
		w, twin := car.New(s), car.New(s)
		for tick := range 60 {
			for r.IntN(4) == 0 {
				p := api.Passenger{Id: len(w.Trips), Tick: tick, From: r.IntN(s.Floors)}
				p.To = (p.From + 1 + r.IntN(s.Floors-1)) % s.Floors
				chosen := choose(w, p)
				if got := dispatch.Choose(w, p); got != chosen {
					t.Fatalf("seed %d: Choose of %v: %d; want %d", seed, p, got, chosen)
				}
				want := admit(w.State(), s.Dispatcher == api.Destination, chosen, p)
				dispatch.Admit(w, p)
				dispatch.Admit(twin, p)
				if got := w.State(); !sameState(got, want) || !sameState(got, twin.State()) {
					t.Fatalf("seed %d: Admit of %v: %v; want %v", seed, p, got, want)
				}
			}
			for i := range w.Cars {
				w.Step(i)
				twin.Step(i)
			}
			w.Tick++
			twin.Tick++
		}
	}
}

// The chapter's example.
func TestExample(t *testing.T) {
	w := car.New(api.Scenario{Floors: 4, Gap: 1, Cars: 2, Capacity: 1, Open: 1, Dwell: 1, Close: 1, Transfer: 1, Dispatcher: api.Sectors})
	dispatch.Admit(w, api.Passenger{From: 3, To: 1})
	if c, ok := w.Hall.Call(3, -1); c != 1 || !ok {
		t.Error(c, ok)
	}
}

// Without a world, or cars, or a dispatcher, there is none to be sent.
func TestNone(t *testing.T) {
	p := passenger(0, 4, 6)
	if got := dispatch.Stops(nil); len(got) != 0 {
		t.Error(got)
	}
	if got := dispatch.Choose(nil, p); got != -1 {
		t.Error(got)
	}
	dispatch.Admit(nil, p)
	for _, d := range []api.Dispatcher{api.Collective, api.Soonest, api.Destination, 0, 5, -1} {
		w := car.New(by(d))
		if d == api.Collective || d == api.Soonest || d == api.Destination {
			w.Cars = nil
			if got := dispatch.Stops(w); len(got) != 0 {
				t.Errorf("dispatcher %d: %v", d, got)
			}
		}
		if got := dispatch.Choose(w, p); got != -1 {
			t.Errorf("dispatcher %d: %d", d, got)
		}
		dispatch.Admit(w, p)
		if got := w.Hall.Waiting(); !slices.Equal(got, []api.Waiter{{From: 4, To: 6, Car: -1}}) {
			t.Errorf("dispatcher %d: %v", d, got)
		}
	}
}

// A world that is made of its fields, without a hall, has an empty one.
func TestNoHall(t *testing.T) {
	for d := api.Collective; d <= api.Destination; d++ {
		w, whole := &car.World{S: by(d), Cars: asked(d).Cars}, asked(d)
		if got := dispatch.Stops(w); !slices.Equal(got, dispatch.Stops(whole)) {
			t.Errorf("dispatcher %d: %v", d, got)
		}
		dispatch.Admit(w, passenger(0, 4, 6))
		dispatch.Admit(whole, passenger(0, 4, 6))
		if !sameState(w.State(), whole.State()) {
			t.Errorf("dispatcher %d: %v; want %v", d, w.State(), whole.State())
		}
	}
}

// P1: at any argument all of it ends.
func TestEnds(t *testing.T) {
	numbers := []int{math.MinInt, -1, 0, 1, 5, 200, math.MaxInt}
	for _, a := range numbers {
		for _, b := range numbers {
			for d := api.Dispatcher(-1); d <= 5; d++ {
				s := api.Scenario{Floors: a, Gap: b, Cars: a, Capacity: b, Open: a, Dispatcher: d}
				c := api.Car{Pos: a, Dir: b, Mode: api.Mode(b), Left: a, Riders: []api.Rider{{Id: a, To: b}}}
				for _, w := range []*car.World{{S: s, Cars: []api.Car{c, c}}, car.New(s), car.New(by(d))} {
					for _, p := range []api.Passenger{passenger(a, b, b), passenger(b, a, b), {Id: a, Tick: b, From: b, To: a}} {
						dispatch.Choose(w, p)
						dispatch.Admit(w, p)
						dispatch.Stops(w)
					}
				}
			}
		}
	}
}
