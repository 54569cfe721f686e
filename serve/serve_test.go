package serve_test

import (
	"math"
	"math/rand/v2"
	"slices"
	"testing"

	"hoistway/api"
	"hoistway/bits"
	"hoistway/face"
	"hoistway/queue"
	"hoistway/serve"
)

// house has another number for each of the times, so that an answer tells which one it is.
var house = api.Scenario{Floors: 10, Gap: 3, Cars: 4, Capacity: 3, Open: 11, Dwell: 22, Close: 33, Transfer: 44, Dispatcher: api.Collective}

// aimed is house, but under Destination.
var aimed = func() api.Scenario {
	s := house
	s.Dispatcher = api.Destination
	return s
}()

// here is the floor at which cars stand in these tests, in places.
const here = 5 * 3

func rider(id, to int) api.Rider { return api.Rider{Id: id, To: to} }

func waiter(id, to, car int) api.Waiter { return api.Waiter{Id: id, From: 5, To: to, Car: car} }

// hall: one where some wait, and are called for.
func hall(calls []api.Call, waiting ...api.Waiter) *queue.Hall {
	h := &queue.Hall{}
	for _, w := range waiting {
		h.Come(w)
	}
	for _, c := range calls {
		h.Send(c.Floor, c.Dir, c.Car)
	}
	return h
}

// trips: so many, of which nothing became yet.
func trips(many int) []api.Trip {
	var l []api.Trip
	for id := range many {
		l = append(l, api.Trip{Id: id, Arrive: id, From: 5, To: 6, Car: -1, Board: -1, Alight: -1})
	}
	return l
}

func same(a, b api.Car) bool {
	return a.Pos == b.Pos && a.Dir == b.Dir && a.Mode == b.Mode && a.Left == b.Left && a.Waited == b.Waited && slices.Equal(a.Riders, b.Riders)
}

// P39.1: each case that the chapter names, by itself. The car is 2, the tick is 70.
func TestServe(t *testing.T) {
	none := func(*api.Trip) {}
	got := func(x *api.Trip) { x.Car, x.Board = 2, 70 }
	out := func(x *api.Trip) { x.Alight = 70 }
	up, down := api.Call{Floor: 5, Dir: 1, Car: 2}, api.Call{Floor: 5, Dir: -1, Car: 2}
	for _, c := range []struct {
		name    string
		s       api.Scenario
		car     api.Car
		calls   []api.Call
		waiting []api.Waiter
		want    api.Car
		gone    bool
		id      int
		became  func(*api.Trip)
		left    []api.Call
		yet     []api.Waiter
	}{
		{
			name: "nobody in or about", s: house,
			car:  api.Car{Pos: here, Mode: api.Opening},
			want: api.Car{Pos: here, Mode: api.Open, Left: 22, Waited: true}, became: none,
		},
		{
			name: "nobody in or about, waited", s: house,
			car:  api.Car{Pos: here, Mode: api.Open, Waited: true},
			want: api.Car{Pos: here, Mode: api.Closing, Left: 33}, became: none,
		},
		{
			name: "what was left counts for nothing", s: house,
			car:  api.Car{Pos: here, Mode: api.Open, Left: 9},
			want: api.Car{Pos: here, Mode: api.Open, Left: 22, Waited: true}, became: none,
		},
		{
			name: "the first rider who wants out", s: house,
			car:  api.Car{Pos: here, Dir: 1, Mode: api.Open, Waited: true, Riders: []api.Rider{rider(3, 8), rider(1, 5), rider(0, 5)}},
			want: api.Car{Pos: here, Dir: 1, Mode: api.Open, Left: 44, Riders: []api.Rider{rider(3, 8), rider(0, 5)}},
			id:   1, became: out,
		},
		{
			name: "out ahead of in", s: house,
			car:   api.Car{Pos: here, Dir: 1, Mode: api.Opening, Riders: []api.Rider{rider(1, 5)}},
			calls: []api.Call{up}, waiting: []api.Waiter{waiter(2, 7, -1)},
			want: api.Car{Pos: here, Dir: 1, Mode: api.Open, Left: 44},
			id:   1, became: out, left: []api.Call{up}, yet: []api.Waiter{waiter(2, 7, -1)},
		},
		{
			name: "a rider out, and nothing else: it faces no way", s: house,
			car:  api.Car{Pos: here, Dir: -1, Mode: api.Opening, Riders: []api.Rider{rider(1, 5)}},
			want: api.Car{Pos: here, Mode: api.Open, Left: 44},
			id:   1, became: out,
		},
		{
			name: "who waits longest, and others yet", s: house,
			car:   api.Car{Pos: here, Dir: 1, Mode: api.Open, Waited: true, Riders: []api.Rider{rider(0, 9)}},
			calls: []api.Call{up}, waiting: []api.Waiter{waiter(2, 7, -1), waiter(1, 8, -1)},
			want: api.Car{Pos: here, Dir: 1, Mode: api.Open, Left: 44, Riders: []api.Rider{rider(0, 9), rider(2, 7)}},
			id:   2, became: got, left: []api.Call{up}, yet: []api.Waiter{waiter(1, 8, -1)},
		},
		{
			name: "the last one who waits", s: house,
			car:   api.Car{Pos: here, Dir: 1, Mode: api.Opening},
			calls: []api.Call{down, up}, waiting: []api.Waiter{waiter(2, 7, -1), waiter(1, 4, -1)},
			want: api.Car{Pos: here, Dir: 1, Mode: api.Open, Left: 44, Riders: []api.Rider{rider(2, 7)}},
			gone: true, id: 2, became: got, left: []api.Call{down}, yet: []api.Waiter{waiter(1, 4, -1)},
		},
		{
			name: "the call is another car's", s: house,
			car:   api.Car{Pos: here, Dir: -1, Mode: api.Opening, Riders: []api.Rider{rider(0, 1)}},
			calls: []api.Call{{Floor: 5, Dir: -1, Car: 3}}, waiting: []api.Waiter{waiter(1, 4, -1)},
			want: api.Car{Pos: here, Dir: -1, Mode: api.Open, Left: 44, Riders: []api.Rider{rider(0, 1), rider(1, 4)}},
			gone: true, id: 1, became: got,
		},
		{
			name: "the last one who waits, of no call", s: house,
			car:     api.Car{Pos: here, Dir: 1, Mode: api.Opening, Riders: []api.Rider{rider(0, 9)}},
			waiting: []api.Waiter{waiter(1, 6, -1)},
			want:    api.Car{Pos: here, Dir: 1, Mode: api.Open, Left: 44, Riders: []api.Rider{rider(0, 9), rider(1, 6)}},
			id:      1, became: got,
		},
		{
			name: "it turns to a call for the other way", s: house,
			car:   api.Car{Pos: here, Dir: 1, Mode: api.Opening},
			calls: []api.Call{down}, waiting: []api.Waiter{waiter(1, 2, -1)},
			want: api.Car{Pos: here, Dir: -1, Mode: api.Open, Left: 44, Riders: []api.Rider{rider(1, 2)}},
			gone: true, id: 1, became: got,
		},
		{
			name: "it turns to what lies the other way", s: house,
			car:   api.Car{Pos: here, Dir: 1, Mode: api.Opening},
			calls: []api.Call{{Floor: 1, Dir: 1, Car: 2}},
			want:  api.Car{Pos: here, Dir: -1, Mode: api.Open, Left: 22, Waited: true}, became: none,
			left: []api.Call{{Floor: 1, Dir: 1, Car: 2}},
		},
		{
			name: "of no direction it faces up, by a call down above", s: house,
			car:   api.Car{Pos: here, Mode: api.Opening},
			calls: []api.Call{{Floor: 6, Dir: -1, Car: 2}},
			want:  api.Car{Pos: here, Dir: 1, Mode: api.Open, Left: 22, Waited: true}, became: none,
			left: []api.Call{{Floor: 6, Dir: -1, Car: 2}},
		},
		{
			name: "who wants the other way stays", s: house,
			car:   api.Car{Pos: here, Dir: 1, Mode: api.Open, Waited: true, Riders: []api.Rider{rider(0, 9)}},
			calls: []api.Call{down}, waiting: []api.Waiter{waiter(1, 4, -1)},
			want: api.Car{Pos: here, Dir: 1, Mode: api.Closing, Left: 33, Riders: []api.Rider{rider(0, 9)}}, became: none,
			left: []api.Call{down}, yet: []api.Waiter{waiter(1, 4, -1)},
		},
		{
			name: "who waits here for a car that faces no way stays", s: house,
			car:     api.Car{Pos: here, Mode: api.Open},
			waiting: []api.Waiter{waiter(1, 5, -1), waiter(2, 7, -1)},
			want:    api.Car{Pos: here, Mode: api.Open, Left: 22, Waited: true}, became: none,
			yet: []api.Waiter{waiter(1, 5, -1), waiter(2, 7, -1)},
		},
		{
			name: "elsewhere is not here", s: house,
			car:   api.Car{Pos: here, Dir: 1, Mode: api.Open},
			calls: []api.Call{{Floor: 6, Dir: 1, Car: 2}}, waiting: []api.Waiter{{Id: 1, From: 6, To: 7, Car: -1}},
			want: api.Car{Pos: here, Dir: 1, Mode: api.Open, Left: 22, Waited: true}, became: none,
			left: []api.Call{{Floor: 6, Dir: 1, Car: 2}}, yet: []api.Waiter{{Id: 1, From: 6, To: 7, Car: -1}},
		},
		{
			name: "full: nobody gets in, and no call is seen", s: house,
			car:   api.Car{Pos: here, Dir: 1, Mode: api.Opening, Riders: []api.Rider{rider(0, 2), rider(1, 1), rider(3, 0)}},
			calls: []api.Call{up}, waiting: []api.Waiter{waiter(2, 7, -1)},
			want: api.Car{Pos: here, Dir: -1, Mode: api.Open, Left: 22, Waited: true, Riders: []api.Rider{rider(0, 2), rider(1, 1), rider(3, 0)}}, became: none,
			left: []api.Call{up}, yet: []api.Waiter{waiter(2, 7, -1)},
		},
		{
			name: "full, on its way: nobody gets in", s: house,
			car:   api.Car{Pos: here, Dir: 1, Mode: api.Open, Waited: true, Riders: []api.Rider{rider(0, 8), rider(1, 8), rider(3, 9)}},
			calls: []api.Call{up}, waiting: []api.Waiter{waiter(2, 7, -1)},
			want: api.Car{Pos: here, Dir: 1, Mode: api.Closing, Left: 33, Riders: []api.Rider{rider(0, 8), rider(1, 8), rider(3, 9)}}, became: none,
			left: []api.Call{up}, yet: []api.Waiter{waiter(2, 7, -1)},
		},
		{
			name: "the last place", s: house,
			car:   api.Car{Pos: here, Dir: 1, Mode: api.Open, Riders: []api.Rider{rider(0, 8), rider(1, 8)}},
			calls: []api.Call{up}, waiting: []api.Waiter{waiter(2, 7, -1), waiter(3, 7, -1)},
			want: api.Car{Pos: here, Dir: 1, Mode: api.Open, Left: 44, Riders: []api.Rider{rider(0, 8), rider(1, 8), rider(2, 7)}},
			id:   2, became: got, left: []api.Call{up}, yet: []api.Waiter{waiter(3, 7, -1)},
		},
		{
			name: "who waits for a car alone gets in under Destination alone", s: house,
			car:     api.Car{Pos: here, Dir: 1, Mode: api.Open, Riders: []api.Rider{rider(0, 8)}},
			waiting: []api.Waiter{waiter(1, 7, 2), waiter(2, 7, 3)},
			want:    api.Car{Pos: here, Dir: 1, Mode: api.Open, Left: 22, Waited: true, Riders: []api.Rider{rider(0, 8)}}, became: none,
			yet: []api.Waiter{waiter(1, 7, 2), waiter(2, 7, 3)},
		},
		{
			name: "Destination: who waits for this car", s: aimed,
			car:     api.Car{Pos: here, Mode: api.Opening},
			waiting: []api.Waiter{waiter(3, 7, 3), waiter(2, 8, -1), waiter(1, 9, 2), waiter(0, 9, 2)},
			want:    api.Car{Pos: here, Dir: 1, Mode: api.Open, Left: 44, Riders: []api.Rider{rider(1, 9)}},
			id:      1, became: got, yet: []api.Waiter{waiter(0, 9, 2), waiter(2, 8, -1), waiter(3, 7, 3)},
		},
		{
			name: "Destination: nobody waits for this car", s: aimed,
			car:     api.Car{Pos: here, Dir: 1, Mode: api.Open, Riders: []api.Rider{rider(0, 9)}},
			waiting: []api.Waiter{waiter(2, 8, -1), waiter(3, 7, 3)},
			want:    api.Car{Pos: here, Dir: 1, Mode: api.Open, Left: 22, Waited: true, Riders: []api.Rider{rider(0, 9)}}, became: none,
			yet: []api.Waiter{waiter(2, 8, -1), waiter(3, 7, 3)},
		},
		{
			name: "Destination: a call is none of this", s: aimed,
			car:   api.Car{Pos: here, Dir: 1, Mode: api.Open},
			calls: []api.Call{up}, waiting: []api.Waiter{waiter(2, 8, 2)},
			want: api.Car{Pos: here, Dir: 1, Mode: api.Open, Left: 44, Riders: []api.Rider{rider(2, 8)}},
			id:   2, became: got, left: []api.Call{up},
		},
	} {
		x := serve.Stop{S: c.s, Hall: hall(c.calls, c.waiting...), Trips: trips(4), I: 2, Tick: 70}
		before := slices.Clone(c.car.Riders)
		answer, gone := x.Serve(c.car)
		if !same(answer, c.want) || gone != c.gone {
			t.Errorf("%s: %v, %v; want %v, %v", c.name, answer, gone, c.want, c.gone)
		}
		if !slices.Equal(c.car.Riders, before) {
			t.Errorf("%s: the riders that were handed in are %v now", c.name, c.car.Riders)
		}
		l := trips(4)
		c.became(&l[c.id])
		if !slices.Equal(x.Trips, l) {
			t.Errorf("%s: trips %v; want %v", c.name, x.Trips, l)
		}
		if got := x.Hall.Calls(); !slices.Equal(got, c.left) {
			t.Errorf("%s: calls %v; want %v", c.name, got, c.left)
		}
		if got := x.Hall.Waiting(); !slices.Equal(got, c.yet) {
			t.Errorf("%s: waiting %v; want %v", c.name, got, c.yet)
		}
	}
}

// P39.1: one stop from its door's opening on, word by word.
func TestStop(t *testing.T) {
	up, down := api.Call{Floor: 5, Dir: 1, Car: 0}, api.Call{Floor: 5, Dir: -1, Car: 0}
	x := serve.Stop{S: house, Hall: hall([]api.Call{up, down}, waiter(2, 6, -1), waiter(3, 1, -1), waiter(4, 9, -1), waiter(5, 7, -1)), Trips: trips(7)}
	c := api.Car{Pos: here, Dir: 1, Mode: api.Opening, Riders: []api.Rider{rider(0, 5), rider(1, 5)}}
	for i, step := range []struct {
		mode   api.Mode
		left   int
		waited bool
		gone   bool
		riders []api.Rider
	}{
		{api.Open, 44, false, false, []api.Rider{rider(1, 5)}},
		{api.Open, 44, false, false, nil},
		{api.Open, 44, false, false, []api.Rider{rider(2, 6)}},
		{api.Open, 44, false, false, []api.Rider{rider(2, 6), rider(4, 9)}},
		{api.Open, 44, false, true, []api.Rider{rider(2, 6), rider(4, 9), rider(5, 7)}},
		{api.Open, 22, true, false, []api.Rider{rider(2, 6), rider(4, 9), rider(5, 7)}},
		{api.Closing, 33, false, false, []api.Rider{rider(2, 6), rider(4, 9), rider(5, 7)}},
	} {
		x.Tick = 10 + i
		var gone bool
		c, gone = x.Serve(c)
		if want := (api.Car{Pos: here, Dir: 1, Mode: step.mode, Left: step.left, Waited: step.waited, Riders: step.riders}); !same(c, want) || gone != step.gone {
			t.Errorf("tick %d: %v, %v; want %v, %v", x.Tick, c, gone, want, step.gone)
		}
	}
	if got := x.Hall.Waiting(); !slices.Equal(got, []api.Waiter{waiter(3, 1, -1)}) {
		t.Error(got)
	}
	if got := x.Hall.Calls(); !slices.Equal(got, []api.Call{down}) {
		t.Error(got)
	}
	want := trips(7)
	want[0].Alight, want[1].Alight = 10, 11
	for i, id := range []int{2, 4, 5} {
		want[id].Car, want[id].Board = 0, 12+i
	}
	if !slices.Equal(x.Trips, want) {
		t.Errorf("%v; want %v", x.Trips, want)
	}
}

// world is a stop, told by plain lists.
type world struct {
	waiting []api.Waiter
	calls   []api.Call
	trips   []api.Trip
}

// lands: the floors of a direction that a car sees.
func (w *world) lands(car, dir int) api.Set {
	var s api.Set
	for _, c := range w.calls {
		if c.Car == car && c.Dir == dir {
			s = bits.With(s, c.Floor)
		}
	}
	for _, x := range w.waiting {
		if x.Car == car && (x.To-x.From)*dir > 0 {
			s = bits.With(s, x.From)
		}
	}
	return s
}

// serve is P39.1, word by word.
func (w *world) serve(s api.Scenario, c api.Car, i, tick int) (api.Car, bool) {
	floor := c.Pos / s.Gap
	c.Dir = face.See(c, s.Capacity, w.lands(i, 1), w.lands(i, -1)).Of(floor, c.Dir)
	c.Mode = api.Open
	for at, r := range c.Riders {
		if r.To == floor {
			c.Riders = slices.Concat(c.Riders[:at], c.Riders[at+1:])
			w.trips[r.Id].Alight = tick
			c.Left, c.Waited = s.Transfer, false
			return c, false
		}
	}
	whom := -1
	if s.Dispatcher == api.Destination {
		whom = i
	}
	here := func(x api.Waiter) bool { return x.From == floor && (x.To-x.From)*c.Dir > 0 && x.Car == whom }
	if at := slices.IndexFunc(w.waiting, here); at >= 0 && len(c.Riders) < s.Capacity {
		x := w.waiting[at]
		w.waiting = slices.Concat(w.waiting[:at], w.waiting[at+1:])
		c.Riders = slices.Concat(c.Riders, []api.Rider{{Id: x.Id, To: x.To}})
		w.trips[x.Id].Car, w.trips[x.Id].Board = i, tick
		c.Left, c.Waited = s.Transfer, false
		calls := len(w.calls)
		if whom < 0 && !slices.ContainsFunc(w.waiting, here) {
			w.calls = slices.DeleteFunc(w.calls, func(k api.Call) bool { return k.Floor == floor && k.Dir == c.Dir })
		}
		return c, len(w.calls) < calls
	}
	if !c.Waited {
		c.Left, c.Waited = s.Dwell, true
		return c, false
	}
	c.Mode, c.Left, c.Waited = api.Closing, s.Close, false
	return c, false
}

// drawn: a world of a scenario, and a car of it, at a floor.
func drawn(r *rand.Rand, s api.Scenario) (*world, api.Car) {
	w := &world{}
	c := api.Car{Pos: r.IntN(s.Floors) * s.Gap, Dir: r.IntN(3) - 1, Mode: api.Mode(2 + r.IntN(2)), Waited: r.IntN(2) == 1}
	for range r.IntN(s.Capacity + 1) {
		c.Riders = append(c.Riders, rider(len(w.trips), r.IntN(s.Floors)))
		w.trips = append(w.trips, api.Trip{Id: len(w.trips), Car: r.IntN(s.Cars), Board: 3, Alight: -1})
	}
	for range r.IntN(12) {
		x := api.Waiter{Id: len(w.trips), From: r.IntN(s.Floors), To: r.IntN(s.Floors), Car: -1}
		if r.IntN(3) > 0 {
			x.From = c.Pos / s.Gap
		}
		if s.Dispatcher == api.Destination {
			x.Car = r.IntN(s.Cars)
		}
		w.waiting = append(w.waiting, x)
		w.trips = append(w.trips, api.Trip{Id: x.Id, From: x.From, To: x.To, Car: -1, Board: -1, Alight: -1})
	}
	for floor := range s.Floors {
		for _, dir := range []int{1, -1} {
			if r.IntN(3) == 0 {
				w.calls = append(w.calls, api.Call{Floor: floor, Dir: dir, Car: r.IntN(s.Cars)})
			}
		}
	}
	return w, c
}

// P39.1: of drawn stops, some ticks one behind the other.
func TestDrawn(t *testing.T) {
	for seed := range uint64(20000) {
		r := rand.New(rand.NewPCG(seed, 39))
		s := api.Scenario{Floors: 2 + r.IntN(6), Gap: 1 + r.IntN(3), Cars: 1 + r.IntN(3), Capacity: 1 + r.IntN(4), Open: 1, Dwell: 1 + r.IntN(9), Close: 1 + r.IntN(9), Transfer: 1 + r.IntN(9), Dispatcher: api.Dispatcher(1 + r.IntN(4))}
		w, c := drawn(r, s)
		x := serve.Stop{S: s, Hall: hall(w.calls, w.waiting...), Trips: slices.Clone(w.trips), I: r.IntN(s.Cars)}
		for tick := range 8 {
			x.Tick = 10 + tick
			want, wantGone := w.serve(s, c, x.I, x.Tick)
			got, gone := x.Serve(c)
			if !same(got, want) || gone != wantGone {
				t.Fatalf("seed %d: %v: %v, %v; want %v, %v", seed, c, got, gone, want, wantGone)
			}
			if !slices.Equal(x.Trips, w.trips) || !slices.Equal(x.Hall.Waiting(), w.waiting) || !slices.Equal(x.Hall.Calls(), w.calls) {
				t.Fatalf("seed %d: %v: %v, %v, %v; want %v", seed, c, x.Trips, x.Hall.Waiting(), x.Hall.Calls(), w)
			}
			c = got
			if r.IntN(6) == 0 {
				c.Dir = r.IntN(3) - 1
			}
		}
	}
}

// P39.1: the riders that are answered are new memory.
func TestNew(t *testing.T) {
	x := serve.Stop{S: house, Hall: hall(nil, waiter(2, 7, -1)), Trips: trips(5)}
	roomy := append(make([]api.Rider, 0, 9), rider(0, 9), rider(1, 8))
	got, _ := x.Serve(api.Car{Pos: here, Dir: 1, Riders: roomy})
	if len(got.Riders) != 3 || roomy[:3][2] != (api.Rider{}) {
		t.Error(got.Riders, roomy[:3])
	}
	got, _ = x.Serve(api.Car{Pos: here, Dir: 1, Riders: roomy})
	got.Riders[0].To = 3
	if roomy[0] != rider(0, 9) {
		t.Error(roomy)
	}
}

// P1: at any argument all of it ends: of trips that there aren't nothing is told, and no hall is an empty one.
func TestEnds(t *testing.T) {
	numbers := []int{math.MinInt, -1, 0, 1, 5, math.MaxInt}
	for _, a := range numbers {
		for _, b := range numbers {
			s := api.Scenario{Gap: a, Capacity: b, Dispatcher: api.Dispatcher(a)}
			for _, dir := range numbers {
				x := serve.Stop{S: s, Hall: hall([]api.Call{{Floor: a, Dir: dir, Car: b}}, waiter(a, b, -1)), Trips: trips(2), I: b, Tick: a}
				x.Serve(api.Car{Pos: b, Dir: dir, Mode: api.Mode(a), Riders: []api.Rider{rider(a, 0), rider(b, b)}})
				serve.Stop{}.Serve(api.Car{Pos: a, Dir: dir})
			}
		}
	}
	x := serve.Stop{S: house, Hall: hall(nil, waiter(4, 7, -1), waiter(-1, 7, -1)), Trips: trips(4), I: 1}
	c := api.Car{Pos: here, Dir: 1, Riders: []api.Rider{rider(-1, 5), rider(4, 5), rider(0, 9)}}
	for range 4 {
		c, _ = x.Serve(c)
	}
	if !slices.Equal(x.Trips, trips(4)) || !slices.Equal(c.Riders, []api.Rider{rider(0, 9), rider(4, 7), rider(-1, 7)}) {
		t.Error(x.Trips, c)
	}
	if c, gone := (serve.Stop{S: house}).Serve(api.Car{Pos: here}); gone || !same(c, api.Car{Pos: here, Mode: api.Open, Left: 22, Waited: true}) {
		t.Error(c)
	}
}
