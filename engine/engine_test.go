package engine_test

import (
	"math"
	"math/rand/v2"
	"slices"
	"testing"

	"hoistway/api"
	"hoistway/arrive"
	"hoistway/bound"
	"hoistway/car"
	"hoistway/diff"
	"hoistway/dispatch"
	"hoistway/engine"
	"hoistway/lcg"
	"hoistway/quiet"
	"hoistway/sample"
	"hoistway/tick"
)

// house has another number for each of the times.
var house = api.Scenario{
	Floors: 10, Gap: 2, Cars: 1, Capacity: 2, Open: 3, Dwell: 5, Close: 2, Transfer: 4,
	Segments: []api.Segment{{Kind: api.Lunch, Ticks: 100, Rate: 30}}, Dispatcher: api.Collective, Horizon: 200, Bins: 4, Width: 5,
}

// with: house, with so many cars, by a dispatcher.
func with(cars int, d api.Dispatcher) api.Scenario {
	s := house
	s.Cars, s.Dispatcher = cars, d
	return s
}

// come: a passenger.
func come(id, tick, from, to int) api.Passenger {
	return api.Passenger{Id: id, Tick: tick, From: from, To: to}
}

// draw: numbers that are drawn, the same of a seed.
func draw(seed uint64) sample.Draw { return rand.New(rand.NewPCG(seed, 47)).IntN }

// crowd: so many who come, all of them ahead of a tick, in order.
func crowd(draw sample.Draw, floors, many, ticks int) []api.Passenger {
	var at []int
	for range many {
		at = append(at, draw(ticks))
	}
	slices.Sort(at)
	var people []api.Passenger
	for id, tick := range at {
		from := draw(floors)
		people = append(people, come(id, tick, from, (from+1+draw(floors-1))%floors))
	}
	return people
}

// greatest: a scenario at its greatest bounds, but for the ticks.
func greatest(d api.Dispatcher) api.Scenario {
	return api.Scenario{
		Floors: api.MaxFloors, Gap: api.MaxGap, Cars: api.MaxCars, Capacity: api.MaxCapacity,
		Open: api.MaxDoor, Dwell: api.MaxDoor, Close: api.MaxDoor, Transfer: api.MaxDoor,
		Segments: house.Segments, Dispatcher: d, Horizon: 6000, Bins: api.MaxBins, Width: api.MaxWidth,
	}
}

// least: a scenario at its least bounds, but for the ticks.
func least(d api.Dispatcher) api.Scenario {
	return api.Scenario{
		Floors: 2, Gap: 1, Cars: 1, Capacity: 1, Open: 1, Dwell: 1, Close: 1, Transfer: 1,
		Segments: house.Segments, Dispatcher: d, Horizon: 200, Bins: 1, Width: 1,
	}
}

// by: each dispatcher.
func by() []api.Dispatcher {
	return []api.Dispatcher{api.Collective, api.Sectors, api.Soonest, api.Destination}
}

// steps: a simulation tick by tick, ahead of a tick.
func steps(x *tick.Sim, until int) {
	for x.W.Tick < until {
		x.Step()
	}
}

// P47.1, P47.2, and the chapter's example: nobody comes, there is no event, and the cars stand at home.
func TestNobody(t *testing.T) {
	for _, d := range by() {
		for _, people := range [][]api.Passenger{nil, {}, {come(0, 9, 0, 1)}, {come(0, math.MaxInt, 0, 1)}} {
			s := with(3, d)
			x := engine.New(s, people)
			if x.Events() != 0 || x.Step(9) || x.Step(0) || x.Step(-1) || x.Step(math.MinInt) || x.Events() != 0 {
				t.Errorf("%v: %d events", people, x.Events())
			}
			if got := x.State(); !sample.SameState(got, car.New(s).State()) {
				t.Errorf("%v: %v", people, got)
			}
			// Ahead of all ticks each car has its row, of no legs.
			if got := x.Log(); !diff.Same(got, api.Log{Legs: [][]api.Leg{nil, nil, nil}}) {
				t.Errorf("%v: %v", people, got)
			}
			x.Until(9)
			want := car.New(s).State()
			want.Tick = 9
			if got := x.State(); !sample.SameState(got, want) || x.Events() != 0 {
				t.Errorf("%v: %v; %d events", people, got, x.Events())
			}
			if got := x.Log(); !diff.Same(got, api.Log{Legs: [][]api.Leg{{{}}, {{Pos: 8}}, {{Pos: 14}}}}) {
				t.Errorf("%v: %v", people, got)
			}
		}
	}
}

// P47.2: the events of one who comes, each at its tick: not ahead of the tick itself, but of the next one.
func TestStepAlone(t *testing.T) {
	rider := []api.Rider{{Id: 0, To: 1}}
	x := engine.New(house, []api.Passenger{come(0, 6, 0, 1)})
	for i, c := range []struct {
		tick int
		car  api.Car // behind it
	}{
		{6, api.Car{Dir: 1, Mode: api.Opening, Left: 3}},
		{9, api.Car{Dir: 1, Mode: api.Open, Left: 4, Riders: rider}},
		{13, api.Car{Dir: 1, Mode: api.Open, Left: 5, Waited: true, Riders: rider}},
		{18, api.Car{Dir: 1, Mode: api.Closing, Left: 2, Riders: rider}},
		{20, api.Car{Dir: 1, Mode: api.Idle, Riders: rider}},
		{21, api.Car{Pos: 1, Dir: 1, Mode: api.Moving, Riders: rider}},
		{23, api.Car{Pos: 2, Mode: api.Opening, Left: 3, Riders: rider}},
		{26, api.Car{Pos: 2, Mode: api.Open, Left: 4}},
		{30, api.Car{Pos: 2, Mode: api.Open, Left: 5, Waited: true}},
		{35, api.Car{Pos: 2, Mode: api.Closing, Left: 2}},
		{37, api.Car{Pos: 2}},
	} {
		if i == 0 && (x.Step(6) || !x.Step(7)) {
			t.Fatal("nobody came at tick 6")
		}
		if x.Step(c.tick) || x.Events() != i+1 {
			t.Errorf("an event ahead of tick %d", c.tick)
		}
		if !x.Step(c.tick+1) || x.Events() != i+2 {
			t.Errorf("no event at tick %d: %d", c.tick, x.Events())
		}
		x.Until(c.tick + 1)
		if got := x.State(); got.Tick != c.tick+1 || !sample.SameCar(got.Cars[0], c.car) {
			t.Errorf("behind tick %d: %v; want %v", c.tick, got, c.car)
		}
	}
	if x.Step(math.MaxInt) || x.Events() != 12 {
		t.Error(x.Events())
	}
	want := api.Log{
		Trips: []api.Trip{{Id: 0, Arrive: 6, From: 0, To: 1, Car: 0, Board: 9, Alight: 26}},
		Legs:  [][]api.Leg{{{}, {Tick: 6, Door: true}, {Tick: 20, Dir: 1}, {Tick: 23, Pos: 2, Door: true}, {Tick: 37, Pos: 2}}},
	}
	if got := x.Log(); !diff.Same(got, want) {
		t.Errorf("%v; want %v", got, want)
	}
}

// P47.2: of one tick, each who comes is an event by themselves, ahead of those of the cars.
func TestStepOneByOne(t *testing.T) {
	for _, d := range by() {
		x := engine.New(with(2, d), []api.Passenger{come(0, 0, 0, 1), come(1, 0, 5, 1), come(2, 0, 0, 3), come(3, 1, 5, 9)})
		for many := 1; many <= 5; many++ {
			if !x.Step(1) {
				t.Fatalf("dispatcher %d: %d events", d, x.Events())
			}
			got := x.State()
			opening := 0
			for _, c := range got.Cars {
				if c.Mode == api.Opening {
					opening++
				}
			}
			if len(got.Trips) != min(many, 3) || opening != max(0, many-3) || got.Tick != 0 || x.Events() != many {
				t.Errorf("dispatcher %d, behind %d events: %v", d, many, got)
			}
		}
		if x.Step(1) || !x.Step(2) || len(x.State().Trips) != 4 {
			t.Errorf("dispatcher %d: %v", d, x.State())
		}
	}
}

// P47.1: State and Log behind Until of a tick are those of as many Steps tick by tick, whatever ticks these are, and whatever was asked ahead of it.
func TestUntil(t *testing.T) {
	for seed := range uint64(400) {
		draw := draw(seed)
		s, people := sample.Game(draw)
		x, y := engine.New(s, people), tick.New(s, people)
		for at := 0; at < s.Horizon; {
			at += draw(1 + draw(40))
			for draw(3) == 0 && x.Step(at) {
				switch draw(8) {
				case 0:
					x.State()
				case 1:
					x.Log()
				}
			}
			x.Until(at)
			steps(y, at)
			if got, want := x.State(), y.W.State(); !sample.SameState(got, want) {
				t.Fatalf("seed %d, %v: %v; want %v", seed, s, got, want)
			}
			if got, want := x.Log(), y.Log(); !diff.Same(got, want) {
				t.Fatalf("seed %d, behind %d ticks: %v; want %v", seed, at, got, want)
			}
		}
	}
}

// P47.1: Run is that of layer 46.
func TestRun(t *testing.T) {
	for seed := range uint64(1000) {
		s, people := sample.Game(draw(seed))
		if got, want := engine.Run(s, people), tick.Run(s, people); !diff.Same(got, want) {
			t.Fatalf("seed %d, %v: %v; want %v", seed, s, got, want)
		}
	}
	for _, d := range by() {
		for seed := range uint64(4) {
			s := greatest(d)
			people := crowd(draw(seed), s.Floors, 1+400/(1+int(seed)*30), 3000)
			if got, want := engine.Run(s, people), tick.Run(s, people); !diff.Same(got, want) {
				t.Errorf("dispatcher %d, seed %d: %v; want %v", d, seed, got.Trips, want.Trips)
			}
			s = least(d)
			people = crowd(draw(seed), s.Floors, 30, 100)
			if got, want := engine.Run(s, people), tick.Run(s, people); !diff.Same(got, want) {
				t.Errorf("dispatcher %d, seed %d: %v; want %v", d, seed, got.Trips, want.Trips)
			}
		}
	}
}

// P47.1: of traffic as layer 28 draws it, of each kind.
func TestRunTraffic(t *testing.T) {
	for _, d := range by() {
		s := with(4, d)
		s.Horizon, s.Capacity = 2000, 5
		s.Segments = []api.Segment{{Kind: api.UpPeak, Ticks: 400, Rate: 90}, {Kind: api.Lunch, Ticks: 300, Rate: 120}, {Kind: api.DownPeak, Ticks: 400, Rate: 90}, {Kind: api.Interfloor, Ticks: 300, Rate: 400}}
		people, _, e := arrive.List(s, api.Stream{Words: lcg.Make(47, 4000)})
		if e != api.OK || len(people) < 100 {
			t.Fatal(e, len(people))
		}
		if got, want := engine.Run(s, people), tick.Run(s, people); !diff.Same(got, want) {
			t.Errorf("dispatcher %d: %v; want %v", d, got.Trips, want.Trips)
		}
	}
}

// P47.1: Run has the ticks ahead of the horizon, and no others.
func TestRunHorizon(t *testing.T) {
	people := []api.Passenger{come(0, 0, 0, 1), come(1, 19, 5, 2), come(2, 20, 2, 3), come(3, 21, 2, 3)}
	for _, d := range by() {
		for _, horizon := range []int{math.MinInt, -1, 0, 1, 2, 3, 4, 18, 19, 20, 21, 22, 30} {
			s := with(2, d)
			s.Horizon = horizon
			if got, want := engine.Run(s, people), tick.Run(s, people); !diff.Same(got, want) {
				t.Errorf("horizon %d: %v; want %v", horizon, got, want)
			}
		}
	}
	// The longest one that may be; Until goes on behind a horizon.
	s := house
	s.Horizon = api.MaxHorizon
	people = []api.Passenger{come(0, 0, 0, 1), come(1, api.MaxHorizon-1, 1, 0), come(2, api.MaxHorizon, 1, 0)}
	if got, want := engine.Run(s, people), tick.Run(s, people); !diff.Same(got, want) || len(got.Trips) != 2 {
		t.Errorf("%v; want %v", got, want)
	}
	// Behind it there are no ticks, whatever a scenario says.
	s.Horizon = math.MaxInt
	if got, want := engine.Run(s, people), tick.Run(s, people); !diff.Same(got, want) || len(got.Trips) != 2 {
		t.Errorf("%v; want %v", got, want)
	}
	s.Horizon = 1
	x := engine.New(s, people)
	x.Until(40)
	if l := x.Log(); len(l.Trips) != 1 || l.Trips[0].Alight != 20 || x.State().Tick != 40 {
		t.Error(l)
	}
}

// P47.1: a call is served by another car ahead of its step in the tick, or behind it: the one that was sent, which goes on meanwhile, stands at the next floor.
func TestServedByOther(t *testing.T) {
	for _, c := range []struct {
		name          string
		people        []api.Passenger
		takes, stands int // behind which ticks the call is no more, the car stands
		sent, pos     int
	}{
		{"by car 0, between floors", []api.Passenger{come(0, 0, 5, 9), come(1, 5, 0, 5), come(2, 5, 0, 7), come(3, 20, 5, 8)}, 41, 42, 1, 14},
		{"by car 0, at a floor", []api.Passenger{come(0, 0, 5, 9), come(1, 4, 0, 5), come(2, 4, 0, 7), come(3, 20, 5, 8)}, 40, 40, 1, 16},
		{"by car 1, between floors", []api.Passenger{come(0, 0, 0, 4), come(1, 6, 5, 2), come(2, 6, 5, 0), come(3, 24, 2, 1)}, 38, 40, 0, 6},
		{"by car 1, at a floor", []api.Passenger{come(0, 0, 0, 4), come(1, 7, 5, 2), come(2, 7, 5, 0), come(3, 24, 2, 1)}, 39, 40, 0, 6},
	} {
		s := with(2, api.Sectors)
		x := engine.New(s, c.people)
		x.Until(c.takes)
		if calls := x.State().Calls; len(calls) != 1 || calls[0].Car != c.sent {
			t.Errorf("%s: %v", c.name, calls)
		}
		x.Until(c.takes + 1)
		if got := x.State(); len(got.Calls) != 0 || got.Trips[3].Board != c.takes || got.Trips[3].Car != 1-c.sent {
			t.Errorf("%s: %v", c.name, got)
		}
		if c.takes < c.stands {
			x.Until(c.stands)
			if got := x.State().Cars[c.sent]; got.Mode != api.Moving {
				t.Errorf("%s: %v", c.name, got)
			}
		}
		x.Until(c.stands + 1)
		if got := x.State().Cars[c.sent]; !sample.SameCar(got, api.Car{Pos: c.pos}) {
			t.Errorf("%s: %v", c.name, got)
		}
		if got, want := engine.Run(s, c.people), tick.Run(s, c.people); !diff.Same(got, want) {
			t.Errorf("%s: %v; want %v", c.name, got, want)
		}
	}
}

// events: how many there are ahead of a tick, asked for in each tick, and then of each car.
func events(s api.Scenario, people []api.Passenger, until int) int {
	w, many := car.New(s), 0
	for w.Tick < until {
		for _, p := range people {
			if p.Tick == w.Tick {
				dispatch.Admit(w, p)
				many++
			}
		}
		for i, c := range w.Cars {
			if ticks, ok := quiet.Next(s, c, w.Hall.Lands(i, 1), w.Hall.Lands(i, -1)); ok && ticks == 1 {
				many++
			}
			w.Step(i)
		}
		w.Tick++
	}
	return many
}

// P47.2: Steps till there is none, and then Until, are Until; Events tells how many there were: those that layer 44 tells tick by tick.
func TestEvents(t *testing.T) {
	for seed := range uint64(300) {
		s, people := sample.Game(draw(seed))
		x, y := engine.New(s, people), engine.New(s, people)
		for _, at := range []int{s.Horizon / 3, s.Horizon / 2, s.Horizon} {
			for x.Step(at) {
			}
			x.Until(at)
			y.Until(at)
			if !sample.SameState(x.State(), y.State()) || !diff.Same(x.Log(), y.Log()) || x.Events() != y.Events() {
				t.Fatalf("seed %d, ahead of %d: %v, %d events; %v, %d", seed, at, x.State(), x.Events(), y.State(), y.Events())
			}
			if want := events(s, people, at); x.Events() != want {
				t.Fatalf("seed %d, ahead of %d: %d events; want %d", seed, at, x.Events(), want)
			}
		}
		many := x.Events()
		if x.Step(s.Horizon) || x.Step(0) || x.Step(-1) || x.Events() != many || !sample.SameState(x.State(), y.State()) {
			t.Fatalf("seed %d: one more: %v", seed, x.State())
		}
	}
}

// P47.2: there are no more events than passengers, and ticks times cars, as much as there is to do.
func TestEventsAtMost(t *testing.T) {
	for _, d := range by() {
		for cars := 1; cars <= 4; cars++ {
			s := least(d)
			s.Floors, s.Cars = 3, cars
			people := crowd(draw(uint64(cars)), 3, 100, 50)
			x := engine.New(s, people)
			for _, at := range []int{1, 2, 3, 10, 50, 200} {
				x.Until(at)
				came := len(x.State().Trips)
				if n := x.Events(); n > came+at*cars || n < came {
					t.Errorf("dispatcher %d, %d cars, ahead of %d: %d events, %d came", d, cars, at, n, came)
				}
			}
		}
	}
}

// P47.2: a car that nobody calls has no events.
func TestNobodyCalls(t *testing.T) {
	// Of 16 cars by their sectors, with a floor each, just one is called: its events are those of a building that has no others.
	s := with(16, api.Sectors)
	s.Floors = 16
	people := []api.Passenger{come(0, 0, 0, 15), come(1, 0, 0, 3), come(2, 90, 0, 9), come(3, 300, 0, 1)}
	alone := s
	alone.Cars = 1
	x, y := engine.New(s, people), engine.New(alone, people)
	x.Until(2000)
	y.Until(2000)
	if x.Events() != y.Events() || !slices.Equal(x.Log().Trips, y.Log().Trips) {
		t.Errorf("%d events; want %d", x.Events(), y.Events())
	}
	for i, way := range x.Log().Legs[1:] {
		if !slices.Equal(way, []api.Leg{{Pos: 2 * (i + 1)}}) {
			t.Errorf("car %d: %v", i+1, way)
		}
	}
	// Once all is done nothing happens any more, however long it takes.
	many := x.Events()
	if x.Step(math.MaxInt) {
		t.Error(x.State())
	}
	x.Until(1 << 30)
	if got := x.State(); got.Tick != 1<<30 || x.Events() != many || len(got.Calls) != 0 || len(got.Waiting) != 0 {
		t.Error(got, x.Events())
	}
}

// P47.3: all get where they want to be, if the horizon is Enough of how many come, and of a tick behind all of theirs.
func TestAllOut(t *testing.T) {
	check := func(s api.Scenario, people []api.Passenger) {
		t.Helper()
		last := 0
		if len(people) > 0 {
			last = people[len(people)-1].Tick + 1
		}
		s.Horizon = bound.Enough(s, len(people), last)
		l := engine.Run(s, people)
		if len(l.Trips) != len(people) {
			t.Fatalf("%v: %d of %d came", s, len(l.Trips), len(people))
		}
		for _, r := range l.Trips {
			if r.Alight < 0 || r.Alight >= s.Horizon {
				t.Fatalf("%v, %v: %v", s, people, r)
			}
		}
	}
	for seed := range uint64(2000) {
		s, people := sample.Game(draw(seed))
		check(s, people)
	}
	for _, d := range by() {
		check(house, nil)
		for seed := range uint64(30) {
			draw := draw(seed)
			// All at once, into one car for one; one who comes last of all; a great building.
			s := with(1, d)
			s.Capacity = 1
			check(s, crowd(draw, s.Floors, 40, 1))
			check(with(1+draw(16), d), crowd(draw, house.Floors, 1, 50))
			s = greatest(d)
			check(s, crowd(draw, s.Floors, 1+draw(20), 1+draw(1000)))
			s.Capacity, s.Cars = 1, 1+draw(2)
			check(s, crowd(draw, s.Floors, 1+draw(20), 1+draw(1000)))
			s = least(d)
			check(s, crowd(draw, s.Floors, 1+draw(40), 1+draw(100)))
		}
	}
}

// A State, or a Log, has no memory in common with the simulation, or with another one, and asking changes nothing.
func TestMemory(t *testing.T) {
	people := []api.Passenger{come(0, 0, 0, 4), come(1, 1, 2, 6), come(2, 30, 9, 0), come(3, 31, 9, 0)}
	x := engine.New(with(2, api.Soonest), people)
	for at := range 201 {
		x.Until(at)
		s, l := x.State(), x.Log()
		for i := range s.Trips {
			s.Trips[i].Board, l.Trips[i].Alight = 1000, 1000
		}
		for i := range s.Waiting {
			s.Waiting[i].From = 1000
		}
		for i := range s.Calls {
			s.Calls[i].Floor = 1000
		}
		for i := range s.Cars {
			s.Cars[i].Pos = 1000
			for k := range s.Cars[i].Riders {
				s.Cars[i].Riders[k].To = 1000
			}
			for k := range l.Legs[i] {
				l.Legs[i][k].Pos = 1000
			}
			l.Legs[i] = append(l.Legs[i], api.Leg{Tick: 1000})
		}
	}
	want := tick.Run(with(2, api.Soonest), people)
	before := x.Log()
	if !diff.Same(before, want) {
		t.Errorf("%v; want %v", before, want)
	}
	x.Until(300)
	if !diff.Same(before, want) {
		t.Errorf("%v; want %v", before, want)
	}
}

// What is handed in stays as it is, and two simulations of it have nothing in common.
func TestHandedIn(t *testing.T) {
	people := []api.Passenger{come(0, 0, 0, 4), come(1, 1, 2, 6), come(2, 30, 9, 0)}
	s := with(2, api.Destination)
	s.Segments = slices.Clone(house.Segments)
	kept := slices.Clone(people)
	want := engine.Run(s, people)
	a, b := engine.New(s, people), engine.New(s, people)
	for a.Step(100) {
		a.State()
		b.Log()
	}
	a.Until(s.Horizon)
	b.Until(s.Horizon)
	if !slices.Equal(people, kept) || !slices.Equal(s.Segments, house.Segments) {
		t.Errorf("%v, %v", people, s)
	}
	if !diff.Same(a.Log(), want) || !diff.Same(b.Log(), want) || a.Events() != b.Events() {
		t.Errorf("%v, %v; want %v", a.Log(), b.Log(), want)
	}
}

// P1: at the greatest ticks that there are all of it ends, and what can't happen ahead of any tick doesn't.
func TestGreatTicks(t *testing.T) {
	people := []api.Passenger{come(0, math.MaxInt-40, 0, 1), come(1, math.MaxInt-2, 9, 0), come(2, math.MaxInt-1, 1, 9), come(3, math.MaxInt, 0, 9)}
	for _, d := range by() {
		x := engine.New(with(2, d), people)
		x.Until(math.MaxInt - 40)
		if got := x.State(); got.Tick != math.MaxInt-40 || x.Events() != 0 {
			t.Errorf("dispatcher %d: %v", d, got)
		}
		x.Until(math.MaxInt)
		got := x.State()
		if got.Tick != math.MaxInt || len(got.Trips) != 3 || got.Trips[0].Board != math.MaxInt-37 || got.Trips[1].Board != -1 || x.Step(math.MaxInt) {
			t.Errorf("dispatcher %d: %v", d, got)
		}
		x.Log()
	}
}

// Ticks that fall change nothing.
func TestFallingTicks(t *testing.T) {
	people := []api.Passenger{come(0, 0, 0, 4), come(1, 1, 2, 6), come(2, 30, 9, 0)}
	x := engine.New(with(2, api.Soonest), people)
	x.Until(60)
	state, log, many := x.State(), x.Log(), x.Events()
	for _, at := range []int{59, 30, 1, 0, -1, math.MinInt} {
		x.Until(at)
		if x.Step(at) || x.Events() != many || !sample.SameState(x.State(), state) || !diff.Same(x.Log(), log) {
			t.Errorf("Until of %d: %v; want %v", at, x.State(), state)
		}
	}
	x.Until(200)
	if got, want := x.Log(), tick.Run(with(2, api.Soonest), people); !diff.Same(got, want) {
		t.Errorf("%v; want %v", got, want)
	}
}

// Whose tick is over already doesn't come, and holds up nobody: as tick by tick.
func TestComesLate(t *testing.T) {
	for _, people := range [][]api.Passenger{
		{come(0, -1, 0, 1), come(1, 0, 0, 1), come(2, 3, 5, 1)},
		{come(0, math.MinInt, 0, 1), come(1, -5, 0, 1)},
		{come(0, 5, 0, 1), come(1, 3, 0, 1), come(2, 5, 7, 1), come(3, 4, 7, 1), come(4, 9, 4, 5)},
	} {
		for _, d := range by() {
			s := with(2, d)
			if got, want := engine.Run(s, people), tick.Run(s, people); !diff.Same(got, want) {
				t.Errorf("%v: %v; want %v", people, got, want)
			}
		}
	}
}

// P1: whatever comes, all of it ends; an Engine that no New made has nothing.
func TestEnds(t *testing.T) {
	numbers := []int{math.MinInt, -1, 0, 1, 5, 200, math.MaxInt}
	for _, a := range numbers {
		for _, b := range numbers {
			for _, c := range numbers {
				s := api.Scenario{Floors: a, Gap: b, Cars: min(c, 3), Capacity: c, Open: b, Dwell: a, Close: c, Transfer: a, Dispatcher: api.Dispatcher(b), Horizon: min(c, 200)}
				people := []api.Passenger{come(a, b, c, a), come(0, 0, 1, 0), come(1, 0, a, b), come(c, 1, 5, 1), come(3, 0, 3, 3)}
				engine.Run(s, people)
				for _, d := range by() {
					s := with(2, d)
					s.Horizon = 60
					engine.Run(s, people)
				}
			}
		}
	}
	// Doors, and transfers, that take no time, or all of it.
	people := []api.Passenger{come(0, 0, 0, 1), come(1, 0, 5, 1), come(2, 3, 0, 3)}
	for _, number := range numbers {
		for _, set := range []func(s *api.Scenario){
			func(s *api.Scenario) { s.Open = number },
			func(s *api.Scenario) { s.Dwell = number },
			func(s *api.Scenario) { s.Close = number },
			func(s *api.Scenario) { s.Transfer = number },
		} {
			s := with(2, api.Soonest)
			set(&s)
			if got, want := engine.Run(s, people), tick.Run(s, people); !diff.Same(got, want) {
				t.Errorf("%v: %v; want %v", s, got, want)
			}
		}
	}
	if got := engine.Run(api.Scenario{Floors: 2, Gap: 1, Horizon: math.MaxInt}, nil); !diff.Same(got, api.Log{}) {
		t.Error(got)
	}
	x := &engine.Engine{}
	x.Until(9)
	if x.Step(9) || x.Events() != 0 || !sample.SameState(x.State(), api.State{Tick: 9}) || !diff.Same(x.Log(), api.Log{}) {
		t.Error(x.State())
	}
}
