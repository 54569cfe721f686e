package car_test

import (
	"math"
	"math/rand/v2"
	"reflect"
	"slices"
	"testing"

	"hoistway/api"
	"hoistway/car"
	"hoistway/move"
	"hoistway/queue"
	"hoistway/serve"
)

// house has another number for each of the times, so that an answer tells which one it is.
var house = api.Scenario{Floors: 10, Gap: 3, Cars: 3, Capacity: 2, Open: 11, Dwell: 22, Close: 33, Transfer: 44, Dispatcher: api.Collective, Horizon: 100, Bins: 4, Width: 5}

// here is the floor 5 of house, in places.
const here = 5 * 3

func rider(id, to int) api.Rider { return api.Rider{Id: id, To: to} }

func waiter(id, to, car int) api.Waiter { return api.Waiter{Id: id, From: 5, To: to, Car: car} }

// hall: one where some wait, and are called for.
func hall(calls []api.Call, waiting ...api.Waiter) *queue.Hall {
	h := &queue.Hall{}
	for _, w := range waiting {
		h.Come(w)
	}
	for _, c := range calls {
		h.Send(c.Floor, c.Dir, c.Car)
	}
	return h
}

// trips: so many, of which nothing became yet.
func trips(many int) []api.Trip {
	var l []api.Trip
	for id := range many {
		l = append(l, api.Trip{Id: id, Arrive: id, From: 5, To: 6, Car: -1, Board: -1, Alight: -1})
	}
	return l
}

func same(a, b api.Car) bool {
	return a.Pos == b.Pos && a.Dir == b.Dir && a.Mode == b.Mode && a.Left == b.Left && a.Waited == b.Waited && slices.Equal(a.Riders, b.Riders)
}

func sameState(a, b api.State) bool {
	return a.Tick == b.Tick && slices.EqualFunc(a.Cars, b.Cars, same) && slices.Equal(a.Waiting, b.Waiting) && slices.Equal(a.Calls, b.Calls) && slices.Equal(a.Trips, b.Trips)
}

// P43.1: each car is at its home, and nothing is yet.
func TestNew(t *testing.T) {
	for _, c := range []struct {
		floors, gap, cars int
		want              []int
	}{
		{2, 1, 1, []int{0}},
		{2, 16, 2, []int{0, 16}},
		{10, 1, 3, []int{0, 4, 7}},
		{10, 5, 3, []int{0, 20, 35}},
		{4, 2, 4, []int{0, 2, 4, 6}},
		{2, 3, 5, []int{0, 3, 3, 3, 3}},
		{3, 1, 4, []int{0, 1, 2, 2}},
		{128, 16, 16, []int{0, 128, 256, 384, 512, 640, 768, 896, 1024, 1152, 1280, 1408, 1536, 1664, 1792, 1920}},
	} {
		s := house
		s.Floors, s.Gap, s.Cars = c.floors, c.gap, c.cars
		w := car.New(s)
		var at []int
		for _, x := range w.Cars {
			at = append(at, x.Pos)
			if !same(x, api.Car{Pos: x.Pos}) {
				t.Errorf("%v: a car %v", c, x)
			}
		}
		if !slices.Equal(at, c.want) {
			t.Errorf("%v: cars at %v", c, at)
		}
		if len(w.Trips) != 0 || w.Tick != 0 || len(w.Hall.Waiting()) != 0 || len(w.Hall.Calls()) != 0 || !reflect.DeepEqual(w.S, s) {
			t.Errorf("%v: %v", c, w)
		}
	}
}

// P43.1: a world has its scenario for itself, and each world its own hall and cars.
func TestNewMemory(t *testing.T) {
	s := house
	s.Segments = []api.Segment{{Kind: api.Lunch, Ticks: 7, Rate: 9}}
	w, other := car.New(s), car.New(s)
	s.Segments[0].Rate = 1
	if !slices.Equal(w.S.Segments, []api.Segment{{Kind: api.Lunch, Ticks: 7, Rate: 9}}) {
		t.Error(w.S.Segments)
	}
	w.S.Segments[0].Ticks = 2
	w.Cars[0].Pos = 8
	w.Hall.Send(1, 1, 1)
	if other.S.Segments[0].Ticks != 7 || other.Cars[0].Pos != 0 || len(other.Hall.Calls()) != 0 {
		t.Error(other)
	}
}

// P43.1
func TestDoor(t *testing.T) {
	for mode, want := range map[api.Mode]bool{
		api.Idle: false, api.Moving: false, api.Opening: true, api.Open: true, api.Closing: true, -1: false, 5: false, math.MaxInt: false, math.MinInt: false,
	} {
		for _, c := range []api.Car{{Mode: mode}, {Mode: mode, Pos: here, Dir: 1, Left: 3, Waited: true}} {
			if got := car.Door(c); got != want {
				t.Errorf("Door of %v: %v", c, got)
			}
		}
	}
}

// P43.2: each case that the chapter names, by itself. The car is 1, the tick is 70.
func TestStep(t *testing.T) {
	none := func(*api.Trip) {}
	aimed := house
	aimed.Dispatcher = api.Destination
	two := []api.Rider{rider(0, 9), rider(1, 8)}
	call := func(floor, dir, car int) api.Call { return api.Call{Floor: floor, Dir: dir, Car: car} }
	for _, c := range []struct {
		name    string
		s       api.Scenario
		car     api.Car
		calls   []api.Call
		waiting []api.Waiter
		want    api.Car
		gone    bool
		became  func(*api.Trip)
		left    []api.Call
		yet     []api.Waiter
	}{
		{
			name: "idle, and nothing is to do", s: house,
			car:  api.Car{Pos: here},
			want: api.Car{Pos: here}, became: none,
		},
		{
			name: "idle: it goes up to a call", s: house,
			car: api.Car{Pos: here}, calls: []api.Call{call(8, -1, 1)},
			want: api.Car{Pos: here + 1, Dir: 1, Mode: api.Moving}, became: none, left: []api.Call{call(8, -1, 1)},
		},
		{
			name: "idle: it goes down to a call", s: house,
			car: api.Car{Pos: here}, calls: []api.Call{call(2, 1, 1)},
			want: api.Car{Pos: here - 1, Dir: -1, Mode: api.Moving}, became: none, left: []api.Call{call(2, 1, 1)},
		},
		{
			name: "idle: calls of others", s: house,
			car: api.Car{Pos: here}, calls: []api.Call{call(8, 1, 0), call(5, 1, 2), call(2, 1, -1)},
			want: api.Car{Pos: here}, became: none, left: []api.Call{call(8, 1, 0), call(5, 1, 2), call(2, 1, -1)},
		},
		{
			name: "idle: a call up, here", s: house,
			car: api.Car{Pos: here}, calls: []api.Call{call(5, 1, 1)},
			want: api.Car{Pos: here, Dir: 1, Mode: api.Opening, Left: 11}, became: none, left: []api.Call{call(5, 1, 1)},
		},
		{
			name: "idle: a call down, here", s: house,
			car: api.Car{Pos: here}, calls: []api.Call{call(5, -1, 1)},
			want: api.Car{Pos: here, Dir: -1, Mode: api.Opening, Left: 11}, became: none, left: []api.Call{call(5, -1, 1)},
		},
		{
			name: "idle: someone waits for it", s: aimed,
			car: api.Car{Pos: here}, waiting: []api.Waiter{waiter(2, 3, 1)},
			want: api.Car{Pos: here, Dir: -1, Mode: api.Opening, Left: 11}, became: none, yet: []api.Waiter{waiter(2, 3, 1)},
		},
		{
			name: "idle: someone waits for another one", s: aimed,
			car: api.Car{Pos: here}, waiting: []api.Waiter{waiter(2, 3, 0), waiter(3, 3, -1)},
			want: api.Car{Pos: here}, became: none, yet: []api.Waiter{waiter(2, 3, 0), waiter(3, 3, -1)},
		},
		{
			name: "idle: on with riders", s: house,
			car:  api.Car{Pos: here, Dir: 1, Riders: two},
			want: api.Car{Pos: here + 1, Dir: 1, Mode: api.Moving, Riders: two}, became: none,
		},
		{
			name: "moving, between two floors", s: house,
			car: api.Car{Pos: here - 1, Dir: -1, Mode: api.Moving}, calls: []api.Call{call(8, 1, 1)},
			want: api.Car{Pos: here - 2, Dir: -1, Mode: api.Moving}, became: none, left: []api.Call{call(8, 1, 1)},
		},
		{
			name: "moving, at a floor where a rider wants out", s: house,
			car:  api.Car{Pos: here, Dir: 1, Mode: api.Moving, Riders: []api.Rider{rider(0, 5), rider(1, 7)}},
			want: api.Car{Pos: here, Dir: 1, Mode: api.Opening, Left: 11, Riders: []api.Rider{rider(0, 5), rider(1, 7)}}, became: none,
		},
		{
			name: "moving, full: it passes its call", s: house,
			car: api.Car{Pos: here, Dir: 1, Mode: api.Moving, Riders: two}, calls: []api.Call{call(5, 1, 1)},
			want: api.Car{Pos: here + 1, Dir: 1, Mode: api.Moving, Riders: two}, became: none, left: []api.Call{call(5, 1, 1)},
		},
		{
			name: "moving: it passes a call down, with something above", s: house,
			car: api.Car{Pos: here, Dir: 1, Mode: api.Moving}, calls: []api.Call{call(5, -1, 1), call(9, -1, 1)},
			want: api.Car{Pos: here + 1, Dir: 1, Mode: api.Moving}, became: none, left: []api.Call{call(5, -1, 1), call(9, -1, 1)},
		},
		{
			name: "moving, and nothing is to do any more", s: house,
			car:  api.Car{Pos: here, Dir: 1, Mode: api.Moving},
			want: api.Car{Pos: here}, became: none,
		},
		{
			name: "opening: its time isn't over", s: house,
			car: api.Car{Pos: here, Dir: 1, Mode: api.Opening, Left: 2}, calls: []api.Call{call(5, 1, 1)}, waiting: []api.Waiter{waiter(2, 7, -1)},
			want: api.Car{Pos: here, Dir: 1, Mode: api.Opening, Left: 1}, became: none, left: []api.Call{call(5, 1, 1)}, yet: []api.Waiter{waiter(2, 7, -1)},
		},
		{
			name: "opening: one gets in, the last one of a call", s: house,
			car: api.Car{Pos: here, Dir: 1, Mode: api.Opening, Left: 1}, calls: []api.Call{call(5, 1, 1), call(5, -1, 1)}, waiting: []api.Waiter{waiter(2, 7, -1)},
			want: api.Car{Pos: here, Dir: 1, Mode: api.Open, Left: 44, Riders: []api.Rider{rider(2, 7)}},
			gone: true, became: func(x *api.Trip) { x.Car, x.Board = 1, 70 }, left: []api.Call{call(5, -1, 1)},
		},
		{
			name: "opening: one gets in, and others wait yet", s: house,
			car: api.Car{Pos: here, Mode: api.Opening, Left: 1}, calls: []api.Call{call(5, -1, 1)}, waiting: []api.Waiter{waiter(2, 3, -1), waiter(1, 4, -1)},
			want:   api.Car{Pos: here, Dir: -1, Mode: api.Open, Left: 44, Riders: []api.Rider{rider(2, 3)}},
			became: func(x *api.Trip) { x.Car, x.Board = 1, 70 }, left: []api.Call{call(5, -1, 1)}, yet: []api.Waiter{waiter(1, 4, -1)},
		},
		{
			name: "opening: another car's call is served", s: house,
			car: api.Car{Pos: here, Dir: 1, Mode: api.Opening, Left: 1, Riders: []api.Rider{rider(0, 9)}}, calls: []api.Call{call(5, 1, 2)}, waiting: []api.Waiter{waiter(2, 7, -1)},
			want: api.Car{Pos: here, Dir: 1, Mode: api.Open, Left: 44, Riders: []api.Rider{rider(0, 9), rider(2, 7)}},
			gone: true, became: func(x *api.Trip) { x.Car, x.Board = 1, 70 },
		},
		{
			name: "opening: who waits for this car", s: aimed,
			car: api.Car{Pos: here, Dir: 1, Mode: api.Opening, Left: 1}, waiting: []api.Waiter{waiter(1, 7, 0), waiter(2, 7, 1)},
			want:   api.Car{Pos: here, Dir: 1, Mode: api.Open, Left: 44, Riders: []api.Rider{rider(2, 7)}},
			became: func(x *api.Trip) { x.Car, x.Board = 1, 70 }, yet: []api.Waiter{waiter(1, 7, 0)},
		},
		{
			name: "open: its time isn't over", s: house,
			car:  api.Car{Pos: here, Mode: api.Open, Left: 9, Waited: true, Riders: []api.Rider{rider(2, 5)}},
			want: api.Car{Pos: here, Mode: api.Open, Left: 8, Waited: true, Riders: []api.Rider{rider(2, 5)}}, became: none,
		},
		{
			name: "open: one gets out", s: house,
			car:    api.Car{Pos: here, Dir: 1, Mode: api.Open, Left: 1, Waited: true, Riders: []api.Rider{rider(2, 5), rider(1, 9)}},
			want:   api.Car{Pos: here, Dir: 1, Mode: api.Open, Left: 44, Riders: []api.Rider{rider(1, 9)}},
			became: func(x *api.Trip) { x.Alight = 70 },
		},
		{
			name: "open: it waits", s: house,
			car:  api.Car{Pos: here, Mode: api.Open, Left: 1},
			want: api.Car{Pos: here, Mode: api.Open, Left: 22, Waited: true}, became: none,
		},
		{
			name: "open: it waited", s: house,
			car:  api.Car{Pos: here, Mode: api.Open, Left: 1, Waited: true},
			want: api.Car{Pos: here, Mode: api.Closing, Left: 33}, became: none,
		},
		{
			name: "closing: its time isn't over", s: house,
			car:  api.Car{Pos: here, Dir: -1, Mode: api.Closing, Left: 33},
			want: api.Car{Pos: here, Dir: -1, Mode: api.Closing, Left: 32}, became: none,
		},
		{
			name: "closing: it is closed, whoever comes", s: house,
			car: api.Car{Pos: here, Dir: 1, Mode: api.Closing, Left: 1, Riders: two[:1]}, calls: []api.Call{call(5, 1, 1)}, waiting: []api.Waiter{waiter(2, 7, -1)},
			want: api.Car{Pos: here, Dir: 1, Riders: two[:1]}, became: none, left: []api.Call{call(5, 1, 1)}, yet: []api.Waiter{waiter(2, 7, -1)},
		},
	} {
		others := []api.Car{{Pos: 1, Dir: 1, Mode: api.Moving}, c.car, {Pos: here, Mode: api.Open, Left: 1, Riders: []api.Rider{rider(3, 5)}}}
		w := &car.World{S: c.s, Hall: hall(c.calls, c.waiting...), Cars: slices.Clone(others), Trips: trips(4), Tick: 70}
		riders := slices.Clone(c.car.Riders)
		if gone := w.Step(1); gone != c.gone || !same(w.Cars[1], c.want) {
			t.Errorf("%s: %v, %v; want %v, %v", c.name, w.Cars[1], gone, c.want, c.gone)
		}
		if !slices.Equal(c.car.Riders, riders) {
			t.Errorf("%s: the riders that were there are %v now", c.name, c.car.Riders)
		}
		l := trips(4)
		c.became(&l[2])
		if !slices.Equal(w.Trips, l) || !slices.Equal(w.Hall.Calls(), c.left) || !slices.Equal(w.Hall.Waiting(), c.yet) {
			t.Errorf("%s: %v, %v, %v", c.name, w.Trips, w.Hall.Calls(), w.Hall.Waiting())
		}
		if !same(w.Cars[0], others[0]) || !same(w.Cars[2], others[2]) || len(w.Cars) != 3 || w.Tick != 70 || !reflect.DeepEqual(w.S, c.s) {
			t.Errorf("%s: %v", c.name, w)
		}
	}
}

// P43.2: a car that isn't there does nothing.
func TestStepNone(t *testing.T) {
	for _, i := range []int{-1, 3, 4, math.MaxInt, math.MinInt} {
		w := car.New(house)
		w.Hall.Send(5, 1, i)
		w.Hall.Come(waiter(0, 8, i))
		before := w.State()
		if w.Step(i) || !sameState(w.State(), before) {
			t.Errorf("%d: %v", i, w.State())
		}
	}
}

// P43.2: two cars' stop, word by word: one serves the call of the other one, which stands at the next floor.
func TestServedByAnother(t *testing.T) {
	s := api.Scenario{Floors: 4, Gap: 2, Cars: 2, Capacity: 2, Open: 1, Dwell: 1, Close: 1, Transfer: 1, Dispatcher: api.Collective}
	w := car.New(s)
	w.Cars[0].Riders, w.Trips = []api.Rider{rider(0, 1)}, trips(2)
	w.Cars[1].Pos = 6
	w.Hall.Come(api.Waiter{Id: 1, From: 1, To: 2, Car: -1})
	w.Hall.Send(1, 1, 1)
	for i, want := range []struct {
		first, second api.Car
		gone          bool
	}{
		{api.Car{Pos: 1, Dir: 1, Mode: api.Moving, Riders: []api.Rider{rider(0, 1)}}, api.Car{Pos: 5, Dir: -1, Mode: api.Moving}, false},
		{api.Car{Pos: 2, Dir: 1, Mode: api.Moving, Riders: []api.Rider{rider(0, 1)}}, api.Car{Pos: 4, Dir: -1, Mode: api.Moving}, false},
		// It faces no way, as the call isn't its own.
		{api.Car{Pos: 2, Mode: api.Opening, Left: 1, Riders: []api.Rider{rider(0, 1)}}, api.Car{Pos: 3, Dir: -1, Mode: api.Moving}, false},
		{api.Car{Pos: 2, Mode: api.Open, Left: 1}, api.Car{Pos: 2, Dir: -1, Mode: api.Moving}, false},
		{api.Car{Pos: 2, Mode: api.Open, Left: 1, Waited: true}, api.Car{Pos: 2, Dir: 1, Mode: api.Opening, Left: 1}, false},
		{api.Car{Pos: 2, Mode: api.Closing, Left: 1}, api.Car{Pos: 2, Dir: 1, Mode: api.Open, Left: 1, Riders: []api.Rider{rider(1, 2)}}, true},
		{api.Car{Pos: 2}, api.Car{Pos: 2, Dir: 1, Mode: api.Open, Left: 1, Waited: true, Riders: []api.Rider{rider(1, 2)}}, false},
	} {
		first, second := w.Step(0), w.Step(1)
		if first || second != want.gone || !same(w.Cars[0], want.first) || !same(w.Cars[1], want.second) {
			t.Errorf("tick %d: %v, %v, %v; want %v", i, first, second, w.Cars, want)
		}
		w.Tick++
	}
	want := trips(2)
	want[0].Alight, want[1].Car, want[1].Board = 3, 1, 5
	if !slices.Equal(w.Trips, want) || len(w.Hall.Calls()) != 0 || len(w.Hall.Waiting()) != 0 {
		t.Error(w.Trips, w.Hall.Calls(), w.Hall.Waiting())
	}
}

// P43.2: the car that was sent stands at the next floor, as its call is no more.
func TestSentForNothing(t *testing.T) {
	w := car.New(house)
	w.Cars[1] = api.Car{Pos: here + 4, Dir: -1, Mode: api.Moving}
	w.Cars[2] = api.Car{Pos: here, Dir: 1, Mode: api.Open, Left: 1, Riders: []api.Rider{rider(0, 9)}}
	w.Trips = trips(2)
	w.Hall.Come(waiter(1, 8, -1))
	w.Hall.Send(5, 1, 1)
	if !w.Step(2) {
		t.Error("the call is there yet")
	}
	for _, want := range []api.Car{{Pos: here + 3, Dir: -1, Mode: api.Moving}, {Pos: here + 3}, {Pos: here + 3}} {
		if w.Step(1) || !same(w.Cars[1], want) {
			t.Errorf("%v; want %v", w.Cars[1], want)
		}
	}
}

// drawn: a world, with cars that do anything.
func drawn(r *rand.Rand) *car.World {
	s := api.Scenario{Floors: 2 + r.IntN(6), Gap: 1 + r.IntN(3), Cars: 1 + r.IntN(3), Capacity: 1 + r.IntN(3), Open: 1 + r.IntN(4), Dwell: 1 + r.IntN(4), Close: 1 + r.IntN(4), Transfer: 1 + r.IntN(4), Dispatcher: api.Dispatcher(1 + r.IntN(4))}
	w := car.New(s)
	for i := range w.Cars {
		c := &w.Cars[i]
		c.Pos, c.Mode, c.Dir = r.IntN(s.Floors)*s.Gap, api.Mode(r.IntN(5)), r.IntN(3)-1
		switch {
		case c.Mode == api.Moving:
			c.Pos, c.Dir = r.IntN((s.Floors-1)*s.Gap+1), 1-2*r.IntN(2)
		case car.Door(*c):
			c.Left, c.Waited = 1+r.IntN(3), c.Mode == api.Open && r.IntN(2) == 1
		}
		for range r.IntN(s.Capacity + 1) {
			c.Riders = append(c.Riders, rider(len(w.Trips), r.IntN(s.Floors)))
			w.Trips = append(w.Trips, api.Trip{Id: len(w.Trips), Car: i, Board: 0, Alight: -1})
		}
	}
	for range r.IntN(8) {
		come(r, w)
	}
	return w
}

// come: one more comes to a world.
func come(r *rand.Rand, w *car.World) {
	x := api.Waiter{Id: len(w.Trips), From: r.IntN(w.S.Floors), Car: -1}
	x.To = (x.From + 1 + r.IntN(w.S.Floors-1)) % w.S.Floors
	sent := r.IntN(w.S.Cars)
	if w.S.Dispatcher == api.Destination {
		x.Car = sent
	} else {
		w.Hall.Send(x.From, queue.Of(x).Dir, sent)
	}
	w.Hall.Come(x)
	w.Trips = append(w.Trips, api.Trip{Id: x.Id, Arrive: w.Tick, From: x.From, To: x.To, Car: -1, Board: -1, Alight: -1})
}

// step is P43.2, word by word.
func step(w *car.World, i int) bool {
	c := w.Cars[i]
	gone := false
	if c.Mode == api.Idle || c.Mode == api.Moving {
		c = move.Step(w.S, c, w.Hall.Lands(i, 1), w.Hall.Lands(i, -1))
	} else if c.Left--; c.Left == 0 {
		if c.Mode == api.Closing {
			c.Mode = api.Idle
		} else {
			c, gone = serve.Stop{S: w.S, Hall: w.Hall, Trips: w.Trips, I: i, Tick: w.Tick}.Serve(c)
		}
	}
	w.Cars = slices.Clone(w.Cars)
	w.Cars[i] = c
	return gone
}

// P43.2: of drawn worlds, tick by tick. P2: two worlds that are alike come to the same.
func TestDrawn(t *testing.T) {
	for seed := range uint64(2000) {
		a, b := rand.New(rand.NewPCG(seed, 43)), rand.New(rand.NewPCG(seed, 43))
		w, model := drawn(a), drawn(b)
		for range 60 {
			if a.IntN(5) == 0 {
				come(a, w)
			}
			if b.IntN(5) == 0 {
				come(b, model)
			}
			for i := range w.Cars {
				got, want := w.Step(i), step(model, i)
				if got != want || !sameState(w.State(), model.State()) {
					t.Fatalf("seed %d, car %d: %v, %v; want %v, %v", seed, i, got, w.State(), want, model.State())
				}
			}
			w.Tick++
			model.Tick++
		}
	}
}

// P43.3
func TestState(t *testing.T) {
	w := car.New(house)
	w.Tick, w.Trips = 9, trips(3)
	w.Cars[1] = api.Car{Pos: here, Dir: -1, Mode: api.Open, Left: 4, Waited: true, Riders: []api.Rider{rider(2, 1), rider(0, 3)}}
	for _, x := range []api.Waiter{waiter(4, 2, -1), waiter(1, 8, -1), {Id: 3, From: 1, To: 2, Car: -1}} {
		w.Hall.Come(x)
	}
	calls := []api.Call{{Floor: 5, Dir: 1, Car: 2}, {Floor: 1, Dir: 1, Car: 0}, {Floor: 5, Dir: -1, Car: 1}}
	for _, c := range calls {
		w.Hall.Send(c.Floor, c.Dir, c.Car)
	}
	want := api.State{
		Tick:    9,
		Cars:    []api.Car{{}, {Pos: here, Dir: -1, Mode: api.Open, Left: 4, Waited: true, Riders: []api.Rider{rider(2, 1), rider(0, 3)}}, {Pos: 21}},
		Waiting: []api.Waiter{waiter(1, 8, -1), {Id: 3, From: 1, To: 2, Car: -1}, waiter(4, 2, -1)},
		Calls:   calls,
		Trips:   trips(3),
	}
	got := w.State()
	if !sameState(got, want) {
		t.Errorf("%v; want %v", got, want)
	}
	// New memory: neither one can tell what becomes of the other one.
	got.Cars[0].Pos, got.Cars[1].Riders[0].To, got.Trips[0].Board = 7, 7, 7
	got.Waiting[0].To, got.Calls[0].Car = 7, 7
	if again := w.State(); !sameState(again, want) {
		t.Errorf("%v; want %v", again, want)
	}
	got = w.State()
	w.Cars[0].Pos, w.Cars[1].Riders[0].To, w.Trips[0].Board, w.Tick = 7, 7, 7, 7
	w.Hall.Clear(5, 1)
	w.Hall.Take(queue.Key{Floor: 1, Dir: 1, Car: -1})
	if !sameState(got, want) {
		t.Errorf("%v; want %v", got, want)
	}
}

// The chapter's example.
func TestExample(t *testing.T) {
	s := api.Scenario{Floors: 2, Gap: 1, Cars: 1, Capacity: 1, Open: 1, Dwell: 1, Close: 1, Transfer: 1}
	if got := car.New(s).State(); !sameState(got, api.State{Cars: []api.Car{{}}}) {
		t.Error(got)
	}
}

// P1: at any argument all of it ends.
func TestEnds(t *testing.T) {
	numbers := []int{math.MinInt, -1, 0, 1, 5, 200, math.MaxInt}
	for _, a := range numbers {
		for _, b := range numbers {
			for _, cars := range numbers {
				s := api.Scenario{Floors: a, Gap: b, Cars: cars, Capacity: b, Open: a, Dispatcher: api.Dispatcher(b)}
				w := car.New(s)
				if len(w.Cars) != min(max(cars, 0), api.MaxCars) {
					t.Errorf("%d cars of %d", len(w.Cars), cars)
				}
				w.Step(cars)
				w.State()
				x := api.Car{Pos: a, Dir: b, Mode: api.Mode(cars), Left: a, Riders: []api.Rider{rider(a, b)}}
				car.Door(x)
				for _, h := range []*queue.Hall{nil, hall([]api.Call{{Floor: a, Dir: b}}, waiter(b, a, 0))} {
					for mode := range api.Mode(5) {
						y := x
						y.Mode, y.Left = mode, 1
						w := &car.World{S: s, Hall: h, Cars: []api.Car{x, y}}
						w.Step(0)
						w.Step(1)
						w.State()
					}
				}
			}
		}
	}
}

// A world that is made of its fields, without a hall, has nobody who waits.
func TestNoHall(t *testing.T) {
	w := &car.World{S: house, Cars: []api.Car{{Pos: here, Mode: api.Opening, Left: 1}, {Pos: here}}}
	if w.Step(0) || w.Step(1) {
		t.Error("a call is no more")
	}
	want := api.State{Cars: []api.Car{{Pos: here, Mode: api.Open, Left: 22, Waited: true}, {Pos: here}}}
	if got := w.State(); !sameState(got, want) {
		t.Errorf("%v; want %v", got, want)
	}
}
