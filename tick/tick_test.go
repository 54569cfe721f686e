package tick_test

import (
	"math"
	"math/rand/v2"
	"reflect"
	"slices"
	"testing"

	"hoistway/api"
	"hoistway/car"
	"hoistway/queue"
	"hoistway/sample"
	"hoistway/tick"
	"hoistway/track"
)

// house has another number for each of the times.
var house = api.Scenario{
	Floors: 10, Gap: 2, Cars: 1, Capacity: 2, Open: 3, Dwell: 5, Close: 2, Transfer: 4,
	Segments: []api.Segment{{Kind: api.Lunch, Ticks: 100, Rate: 30}}, Dispatcher: api.Collective, Horizon: 200, Bins: 4, Width: 5,
}

// with: house, with so many cars, by a dispatcher.
func with(cars int, d api.Dispatcher) api.Scenario {
	s := house
	s.Cars, s.Dispatcher = cars, d
	return s
}

// come: a passenger.
func come(id, tick, from, to int) api.Passenger {
	return api.Passenger{Id: id, Tick: tick, From: from, To: to}
}

func sameLog(a, b api.Log) bool {
	return slices.Equal(a.Trips, b.Trips) && slices.EqualFunc(a.Legs, b.Legs, slices.Equal[[]api.Leg]) && a.Used == b.Used
}

// steps: so many of them.
func steps(x *tick.Sim, many int) {
	for range many {
		x.Step()
	}
}

// P46.1: New is the world of layer 43, whoever is to come.
func TestNew(t *testing.T) {
	for _, cars := range []int{1, 3, 16} {
		for d := api.Collective; d <= api.Destination; d++ {
			s := with(cars, d)
			x := tick.New(s, []api.Passenger{come(0, 0, 0, 1), come(1, 0, 3, 1), come(2, 7, 0, 9)})
			if !sample.SameState(x.W.State(), car.New(s).State()) || !reflect.DeepEqual(x.W.S, s) {
				t.Errorf("%d cars: %v", cars, x.W)
			}
			if l := x.Log(); len(l.Trips) != 0 || len(l.Legs) != cars || slices.ContainsFunc(l.Legs, func(l []api.Leg) bool { return len(l) > 0 }) || l.Used != 0 {
				t.Errorf("%d cars: %v", cars, l)
			}
		}
	}
}

// P46.1: everyone comes at their tick, no earlier and no later, in their order, and the world's tick is one more with each Step.
func TestStepAdmits(t *testing.T) {
	people := []api.Passenger{come(0, 0, 3, 5), come(1, 0, 3, 1), come(2, 2, 4, 9), come(3, 2, 8, 9), come(4, 2, 3, 9), come(5, 3, 0, 1), come(6, 60, 7, 1)}
	for d := api.Collective; d <= api.Destination; d++ {
		x := tick.New(with(2, d), people)
		for tick := range 65 {
			x.Step()
			var came []api.Passenger
			for _, p := range people {
				if p.Tick <= tick {
					came = append(came, p)
				}
			}
			var begun []api.Passenger
			for _, r := range x.W.Trips {
				begun = append(begun, come(r.Id, r.Arrive, r.From, r.To))
			}
			if !slices.Equal(begun, came) || x.W.Tick != tick+1 {
				t.Fatalf("dispatcher %d, behind tick %d: %v; world's tick %d", d, tick, begun, x.W.Tick)
			}
		}
	}
}

// P46.1: who comes is admitted ahead of the cars' steps: a car that stands there opens in that tick.
func TestStepAdmitsFirst(t *testing.T) {
	for d := api.Collective; d <= api.Destination; d++ {
		x := tick.New(with(1, d), []api.Passenger{come(0, 0, 0, 9)})
		x.Step()
		if want := (api.Car{Dir: 1, Mode: api.Opening, Left: 3}); !sample.SameCar(x.W.Cars[0], want) {
			t.Errorf("dispatcher %d: %v", d, x.W.Cars[0])
		}
	}
}

// P46.1: one by one: a car's choice knows of those who came in the same tick ahead of it.
func TestStepOneByOne(t *testing.T) {
	x := tick.New(with(2, api.Destination), []api.Passenger{come(0, 0, 1, 9), come(1, 0, 2, 9)})
	x.Step()
	// Alone, the second one would have waited for car 0, too: it is nearer.
	want := []api.Waiter{{Id: 0, From: 1, To: 9, Car: 0}, {Id: 1, From: 2, To: 9, Car: 1}}
	if got := x.W.Hall.Waiting(); !slices.Equal(got, want) {
		t.Error(got)
	}
	alone := tick.New(with(2, api.Destination), []api.Passenger{come(0, 0, 2, 9)})
	alone.Step()
	if got := alone.W.Hall.Waiting(); !slices.Equal(got, []api.Waiter{{Id: 0, From: 2, To: 9, Car: 0}}) {
		t.Error(got)
	}
}

// open: two cars that are open at floor 5, on their way up, whose times are over in the next tick; so many wait there, and wait for any car.
func open(many int) *tick.Sim {
	x := tick.New(with(2, api.Collective), nil)
	x.W.Tick = 70
	for i := range x.W.Cars {
		x.W.Cars[i] = api.Car{Pos: 10, Dir: 1, Mode: api.Open, Left: 1, Riders: []api.Rider{{Id: many + i, To: 9}}}
	}
	for id := range many + 2 {
		x.W.Trips = append(x.W.Trips, api.Trip{Id: id, Arrive: id, From: 5, To: 9, Car: -1, Board: -1, Alight: -1})
	}
	for id := range many {
		x.W.Hall.Come(api.Waiter{Id: id, From: 5, To: 9, Car: -1})
	}
	x.W.Hall.Send(5, 1, 1)
	return x
}

// P46.1: the cars do their steps from car 0 on, all of them in the world's tick.
func TestStepOrder(t *testing.T) {
	for _, c := range []struct{ waiting, first, second int }{{0, 0, 0}, {1, 1, 0}, {2, 1, 1}, {3, 1, 1}} {
		x := open(c.waiting)
		x.Step()
		var in [2]int
		for id, r := range x.W.Trips[:c.waiting] {
			switch {
			case id < c.first+c.second:
				in[r.Car]++
				if r.Board != 70 || r.Car != id {
					t.Errorf("%d wait: %v", c.waiting, r)
				}
			case r.Car != -1 || r.Board != -1:
				t.Errorf("%d wait: %v", c.waiting, r)
			}
		}
		if in != [2]int{c.first, c.second} || x.W.Tick != 71 {
			t.Errorf("%d wait: %v got in, tick %d", c.waiting, in, x.W.Tick)
		}
	}
}

// P46.2, and the third of the document's ten examples: the way of one who comes to where a car stands, tick by tick.
func TestAlone(t *testing.T) {
	rider := []api.Rider{{Id: 0, To: 1}}
	want := map[int]api.Car{
		1:  {Dir: 1, Mode: api.Opening, Left: 3},
		3:  {Dir: 1, Mode: api.Opening, Left: 1},
		4:  {Dir: 1, Mode: api.Open, Left: 4, Riders: rider},
		7:  {Dir: 1, Mode: api.Open, Left: 1, Riders: rider},
		8:  {Dir: 1, Mode: api.Open, Left: 5, Waited: true, Riders: rider},
		13: {Dir: 1, Mode: api.Closing, Left: 2, Riders: rider},
		15: {Dir: 1, Mode: api.Idle, Riders: rider},
		16: {Pos: 1, Dir: 1, Mode: api.Moving, Riders: rider},
		17: {Pos: 2, Dir: 1, Mode: api.Moving, Riders: rider},
		18: {Pos: 2, Mode: api.Opening, Left: 3, Riders: rider},
		21: {Pos: 2, Mode: api.Open, Left: 4},
		25: {Pos: 2, Mode: api.Open, Left: 5, Waited: true},
		30: {Pos: 2, Mode: api.Closing, Left: 2},
		32: {Pos: 2},
		33: {Pos: 2},
	}
	x := tick.New(house, []api.Passenger{come(0, 0, 0, 1)})
	for range 40 {
		x.Step()
		if c, ok := want[x.W.Tick]; ok && !sample.SameCar(x.W.Cars[0], c) {
			t.Errorf("behind %d ticks: %v; want %v", x.W.Tick, x.W.Cars[0], c)
		}
	}
	log := api.Log{
		Trips: []api.Trip{{Id: 0, Arrive: 0, From: 0, To: 1, Car: 0, Board: 3, Alight: 20}},
		Legs:  [][]api.Leg{{{Tick: 0, Door: true}, {Tick: 14, Dir: 1}, {Tick: 17, Pos: 2, Door: true}, {Tick: 31, Pos: 2}}},
	}
	if got := x.Log(); !sameLog(got, log) {
		t.Errorf("%v; want %v", got, log)
	}
	if got := tick.Run(house, []api.Passenger{come(0, 0, 0, 1)}); !sameLog(got, log) {
		t.Errorf("%v; want %v", got, log)
	}
}

// The fourth example: two cars stand as far from a call.
func TestAsFar(t *testing.T) {
	s := with(2, api.Collective)
	s.Floors = 8
	x := tick.New(s, []api.Passenger{come(0, 0, 2, 5)})
	x.Step()
	if got := x.W.Hall.Calls(); !slices.Equal(got, []api.Call{{Floor: 2, Dir: 1, Car: 0}}) {
		t.Error(got)
	}
}

// opened: the places at which a car's door was other than closed, one for each time, ahead of a tick.
func opened(l []api.Leg, tick int) []int {
	var at []int
	for _, s := range track.Doors(l, tick) {
		pos, _, _ := track.At(l, s.From)
		at = append(at, pos)
	}
	return at
}

// The fifth example: a car that goes up passes a call down, if it has something above.
func TestPasses(t *testing.T) {
	l := tick.Run(house, []api.Passenger{come(0, 0, 0, 9), come(1, 1, 5, 0)})
	if got := opened(l.Legs[0], 200); !slices.Equal(got, []int{0, 18, 10, 0}) {
		t.Errorf("opened at %v: %v", got, l)
	}
}

// The sixth example: a full car stops for no call, but where a rider wants out.
func TestFull(t *testing.T) {
	s := house
	s.Capacity = 1
	l := tick.Run(s, []api.Passenger{come(0, 0, 0, 4), come(1, 1, 2, 6), come(2, 1, 4, 8)})
	if got := opened(l.Legs[0], 200); !slices.Equal(got, []int{0, 8, 16, 4, 12}) {
		t.Errorf("opened at %v: %v", got, l)
	}
}

// The seventh example: who comes while a car stands open gets in when its time is over.
func TestComesWhileOpen(t *testing.T) {
	for _, c := range []struct{ comes, board int }{{1, 7}, {5, 7}, {7, 7}, {8, 12}, {12, 12}} {
		l := tick.Run(house, []api.Passenger{come(0, 0, 0, 5), come(1, c.comes, 0, 7)})
		if l.Trips[0].Board != 3 || l.Trips[1].Board != c.board {
			t.Errorf("who comes at %d: %v", c.comes, l.Trips)
		}
	}
	l := tick.Run(house, []api.Passenger{come(0, 0, 0, 5), come(1, 13, 0, 7)})
	if got := opened(l.Legs[0], 40); !slices.Equal(got, []int{0, 0}) {
		t.Errorf("who comes while it closes: opened at %v: %v", got, l)
	}
}

// The eighth example: a call is served by another car, and the one that was sent stands at the next floor.
func TestServedByOther(t *testing.T) {
	x := tick.New(with(2, api.Sectors), nil)
	for id := range 3 {
		x.W.Trips = append(x.W.Trips, api.Trip{Id: id, From: 5, To: 9, Car: -1, Board: -1, Alight: -1})
	}
	x.W.Cars[0] = api.Car{Pos: 10, Dir: 1, Mode: api.Opening, Left: 1, Riders: []api.Rider{{Id: 0, To: 5}, {Id: 1, To: 7}}}
	x.W.Cars[1] = api.Car{Pos: 17, Dir: -1, Mode: api.Moving}
	x.W.Hall.Come(api.Waiter{Id: 2, From: 5, To: 9, Car: -1})
	x.W.Hall.Send(5, 1, 1)
	steps(x, 4)
	if len(x.W.Hall.Calls()) != 1 {
		t.Errorf("behind 4 ticks: %v", x.W.State())
	}
	steps(x, 1)
	if len(x.W.Hall.Calls()) != 0 || x.W.Trips[2].Car != 0 || x.W.Trips[2].Board != 4 || !sample.SameCar(x.W.Cars[1], api.Car{Pos: 12, Dir: -1, Mode: api.Moving}) {
		t.Errorf("behind 5 ticks: %v", x.W.State())
	}
	steps(x, 1)
	if !sample.SameCar(x.W.Cars[1], api.Car{Pos: 12}) {
		t.Errorf("behind 6 ticks: %v", x.W.Cars[1])
	}
}

// The ninth example: the horizon comes while three ride and two wait.
func TestHorizonComes(t *testing.T) {
	s := house
	s.Capacity, s.Horizon = 3, 20
	var people []api.Passenger
	for id := range 5 {
		people = append(people, come(id, 0, 0, 9))
	}
	l := tick.Run(s, people)
	var board, alight []int
	for _, r := range l.Trips {
		board, alight = append(board, r.Board), append(alight, r.Alight)
	}
	if !slices.Equal(board, []int{3, 7, 11, -1, -1}) || !slices.Equal(alight, []int{-1, -1, -1, -1, -1}) {
		t.Error(l.Trips)
	}
}

// P46.2, and the chapter's example: nobody comes, each car has one leg.
func TestNobody(t *testing.T) {
	for d := api.Collective; d <= api.Destination; d++ {
		for _, people := range [][]api.Passenger{nil, {}, {come(0, 9, 0, 1)}, {come(0, api.MaxHorizon, 0, 1)}} {
			s := with(3, d)
			s.Horizon = 9
			want := api.Log{Legs: [][]api.Leg{{{}}, {{Pos: 8}}, {{Pos: 14}}}}
			if got := tick.Run(s, people); !sameLog(got, want) {
				t.Errorf("%v: %v", people, got)
			}
		}
	}
}

// P46.2: Run has the ticks ahead of the horizon, and no others: who comes in the last one is there.
func TestRunHorizon(t *testing.T) {
	people := []api.Passenger{come(0, 0, 0, 1), come(1, 19, 5, 2), come(2, 20, 2, 3), come(3, 21, 2, 3)}
	for _, horizon := range []int{1, 2, 3, 4, 19, 20, 21, 22, 30} {
		s := with(2, api.Collective)
		s.Horizon = horizon
		x := tick.New(s, people)
		steps(x, horizon)
		got := tick.Run(s, people)
		came := 0
		for _, p := range people {
			if p.Tick < horizon {
				came++
			}
		}
		if !sameLog(got, x.Log()) || len(got.Trips) != came {
			t.Errorf("horizon %d: %v; want %v", horizon, got, x.Log())
		}
	}
	// Without a tick each car has its row, of no legs.
	for _, horizon := range []int{0, -1, math.MinInt} {
		s := with(2, api.Collective)
		s.Horizon = horizon
		if got := tick.Run(s, people); !sameLog(got, api.Log{Legs: [][]api.Leg{nil, nil}}) {
			t.Errorf("horizon %d: %v", horizon, got)
		}
	}
	// Steps go on behind the horizon.
	s := house
	s.Horizon = 1
	x := tick.New(s, people[:2])
	steps(x, 40)
	if l := x.Log(); x.W.Tick != 40 || len(l.Trips) != 2 || l.Trips[0].Alight != 20 {
		t.Error(l)
	}
}

// P46.2: a Log has no legs in common with the simulation, or with another Log, and changes nothing.
func TestLogMemory(t *testing.T) {
	people := []api.Passenger{come(0, 0, 0, 4), come(1, 1, 2, 6)}
	x := tick.New(house, people)
	for range 90 {
		x.Step()
		l := x.Log()
		for i := range l.Trips {
			l.Trips[i].Board = 1000
		}
		for i := range l.Legs[0] {
			l.Legs[0][i].Pos = 1000
		}
		l.Legs[0] = append(l.Legs[0], api.Leg{Tick: 1000})
	}
	s := house
	s.Horizon = 90
	if got, want := x.Log(), tick.Run(s, people); !sameLog(got, want) {
		t.Errorf("%v; want %v", got, want)
	}
	before := x.Log()
	want := tick.Run(s, people)
	steps(x, 60)
	if !sameLog(before, want) {
		t.Errorf("%v; want %v", before, want)
	}
}

// What is handed in stays as it is, and two simulations of it have nothing in common.
func TestHandedIn(t *testing.T) {
	people := []api.Passenger{come(0, 0, 0, 4), come(1, 1, 2, 6), come(2, 30, 9, 0)}
	s := with(2, api.Soonest)
	s.Segments = slices.Clone(house.Segments)
	kept := slices.Clone(people)
	want := tick.Run(s, people)
	a, b := tick.New(s, people), tick.New(s, people)
	for range s.Horizon {
		a.Step()
		a.Log()
		b.Step()
	}
	if !slices.Equal(people, kept) || !slices.Equal(s.Segments, house.Segments) {
		t.Errorf("%v, %v", people, s)
	}
	if !sameLog(a.Log(), want) || !sameLog(b.Log(), want) || !sample.SameState(a.W.State(), b.W.State()) {
		t.Errorf("%v, %v; want %v", a.Log(), b.Log(), want)
	}
}

// P46.1, P46.2: drawn scenarios, held tick by tick against the chapters' words.
func TestDrawn(t *testing.T) {
	for seed := range uint64(400) {
		s, people := sample.Game(rand.New(rand.NewPCG(seed, 46)).IntN)
		x, m := tick.New(s, people), newModel(s)
		for m.tick < s.Horizon {
			x.Step()
			m.step(people)
			if got, want := x.W.State(), m.state(); !sample.SameState(got, want) {
				t.Fatalf("seed %d, %v: %v; want %v", seed, s, got, want)
			}
			if m.tick%50 == 0 && !sameLog(x.Log(), m.log()) {
				t.Fatalf("seed %d, behind %d ticks: %v; want %v", seed, m.tick, x.Log(), m.log())
			}
		}
		if got, want := tick.Run(s, people), newModel(s).play(people); !sameLog(got, want) || !sameLog(x.Log(), want) {
			t.Fatalf("seed %d, %v: %v; want %v", seed, s, got, want)
		}
	}
}

// P46.2: of the longest horizon that may be all ticks are there.
func TestLongest(t *testing.T) {
	s := house
	s.Horizon = api.MaxHorizon
	x := tick.Run(s, []api.Passenger{come(0, 0, 0, 1), come(1, api.MaxHorizon-1, 1, 0), come(2, api.MaxHorizon, 1, 0)})
	want := []api.Leg{{Tick: 0, Door: true}, {Tick: 14, Dir: 1}, {Tick: 17, Pos: 2, Door: true}, {Tick: 31, Pos: 2}, {Tick: api.MaxHorizon - 1, Pos: 2, Door: true}}
	if len(x.Trips) != 2 || len(x.Legs) != 1 || !slices.Equal(x.Legs[0], want) {
		t.Error(x)
	}
}

// P46.2: at the greatest of all other bounds.
func TestGreatest(t *testing.T) {
	s := api.Scenario{
		Floors: api.MaxFloors, Gap: api.MaxGap, Cars: api.MaxCars, Capacity: api.MaxCapacity,
		Open: api.MaxDoor, Dwell: api.MaxDoor, Close: api.MaxDoor, Transfer: api.MaxDoor,
		Segments: house.Segments, Horizon: 6000, Bins: api.MaxBins, Width: api.MaxWidth,
	}
	r := rand.New(rand.NewPCG(1, 46))
	var people []api.Passenger
	for id := range 3 * api.MaxOnce {
		p := come(id, 100*(id/api.MaxOnce), r.IntN(s.Floors), 0)
		p.To = (p.From + 1 + r.IntN(s.Floors-1)) % s.Floors
		people = append(people, p)
	}
	for d := api.Collective; d <= api.Destination; d++ {
		s.Dispatcher = d
		if got, want := tick.Run(s, people), newModel(s).play(people); !sameLog(got, want) {
			t.Errorf("dispatcher %d: %v; want %v", d, got.Trips, want.Trips)
		}
	}
}

// P1: whatever comes, all of it ends.
func TestEnds(t *testing.T) {
	numbers := []int{math.MinInt, -1, 0, 1, 5, 200, math.MaxInt}
	for _, a := range numbers {
		for _, b := range numbers {
			for _, c := range numbers {
				s := api.Scenario{Floors: a, Gap: b, Cars: min(c, 3), Capacity: c, Open: b, Dwell: a, Close: c, Transfer: a, Dispatcher: api.Dispatcher(b), Horizon: min(c, 200)}
				people := []api.Passenger{come(a, b, c, a), come(0, 0, 1, 0), come(1, 0, a, b), come(c, 1, 5, 1), come(3, 0, 3, 3)}
				tick.Run(s, people)
				for d := api.Collective; d <= api.Destination; d++ {
					s := with(2, d)
					s.Horizon = 60
					tick.Run(s, people)
				}
			}
		}
	}
	// A scenario without cars, whose horizon is beyond all bounds.
	if got := tick.Run(api.Scenario{Floors: 2, Gap: 1, Horizon: math.MaxInt}, nil); !sameLog(got, api.Log{}) {
		t.Error(got)
	}
}

// Whose tick was over already doesn't come, and holds up nobody who comes behind.
func TestComesLate(t *testing.T) {
	x := tick.New(house, []api.Passenger{come(0, -1, 0, 1), come(1, 0, 0, 1), come(2, 3, 5, 1), come(3, 9, 4, 5)})
	steps(x, 1)
	x.W.Tick = 8
	steps(x, 2)
	var ids []int
	for _, r := range x.W.Trips {
		ids = append(ids, r.Id)
	}
	if !slices.Equal(ids, []int{1, 3}) {
		t.Error(ids)
	}
}

// A simulation may be made of a world alone: nobody is to come.
func TestMadeOfWorld(t *testing.T) {
	w := car.New(with(2, api.Collective))
	w.Trips = []api.Trip{{Id: 0, From: 0, To: 1, Car: -1, Board: -1, Alight: -1}}
	w.Hall.Come(api.Waiter{Id: 0, From: 0, To: 1, Car: -1})
	w.Hall.Send(0, 1, 0)
	x := &tick.Sim{W: w}
	if got := x.Log(); !sameLog(got, api.Log{Trips: w.Trips, Legs: [][]api.Leg{nil, nil}}) {
		t.Error(got)
	}
	steps(x, 40)
	want := tick.Run(with(2, api.Collective), []api.Passenger{come(0, 0, 0, 1)})
	if got := x.Log(); !sameLog(got, want) || w.Tick != 40 {
		t.Errorf("%v; want %v", got, want)
	}
	// One car more, which has legs from then on.
	w.Cars = append(w.Cars, api.Car{Pos: 18})
	steps(x, 2)
	if got := x.Log().Legs; len(got) != 3 || !slices.Equal(got[2], []api.Leg{{Pos: 18}}) {
		t.Error(got)
	}
	for _, x := range []*tick.Sim{{}, {W: &car.World{}}, {W: &car.World{Hall: &queue.Hall{}, Cars: make([]api.Car, 0)}}} {
		x.Step()
		if got := x.Log(); !sameLog(got, api.Log{}) {
			t.Error(got)
		}
	}
}
