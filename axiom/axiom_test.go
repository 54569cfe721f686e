package axiom_test

import (
	"math"
	"math/rand/v2"
	"slices"
	"testing"

	"hoistway/api"
	"hoistway/arrive"
	"hoistway/axiom"
	"hoistway/engine"
	"hoistway/lcg"
	"hoistway/sample"
	"hoistway/tick"
	"hoistway/trip"
)

// house: its cars are at home at the places 0 and 6.
var house = api.Scenario{
	Floors: 4, Gap: 3, Cars: 2, Capacity: 2, Open: 1, Dwell: 5, Close: 2, Transfer: 4,
	Segments: []api.Segment{{Kind: api.Lunch, Ticks: 100, Rate: 30}}, Dispatcher: api.Collective, Horizon: 100, Bins: 4, Width: 5,
}

// by: house, by a dispatcher.
func by(d api.Dispatcher) api.Scenario {
	s := house
	s.Dispatcher = d
	return s
}

// of: a trip of one who came at tick 0, by a car, in and out at ticks.
func of(from, to, car, board, alight int) api.Trip {
	return api.Trip{From: from, To: to, Car: car, Board: board, Alight: alight}
}

// draw: numbers that are drawn, the same of a seed.
func draw(seed uint64) sample.Draw { return rand.New(rand.NewPCG(seed, 48)).IntN }

// ran: a game, those who came to it, and its log.
func ran(draw sample.Draw) (api.Scenario, []api.Passenger, api.Log) {
	s, people := sample.Game(draw)
	people = slices.DeleteFunc(people, func(p api.Passenger) bool { return p.Tick >= s.Horizon })
	return s, people, engine.Run(s, people)
}

// P48.1 (Came): as many, and each with the numbers of the one there.
func TestCame(t *testing.T) {
	people := []api.Passenger{{Id: 0, Tick: 3, From: 1, To: 2}, {Id: 1, Tick: 3, From: 0, To: 3}, {Id: 2, Tick: 9, From: 3, To: 1}}
	begun := func() []api.Trip {
		var l []api.Trip
		for _, p := range people {
			l = append(l, trip.Begin(p))
		}
		return l
	}
	if !axiom.Came(people, begun()) || !axiom.Came(nil, nil) || !axiom.Came([]api.Passenger{}, nil) {
		t.Error("they came")
	}
	l := begun()
	if axiom.Came(people, l[:2]) || axiom.Came(people[:2], l) || axiom.Came(people, nil) || axiom.Came(nil, l) {
		t.Error("not as many came")
	}
	for i, change := range []func(r *api.Trip){
		func(r *api.Trip) { r.Id++ },
		func(r *api.Trip) { r.Id = -1 },
		func(r *api.Trip) { r.Arrive-- },
		func(r *api.Trip) { r.From++ },
		func(r *api.Trip) { r.To-- },
		func(r *api.Trip) { r.From, r.To = r.To, r.From },
	} {
		for at := range l {
			l := begun()
			if change(&l[at]); axiom.Came(people, l) {
				t.Errorf("change %d of trip %d", i, at)
			}
		}
	}
	// What became of them later is another thing.
	l[1].Car, l[1].Board, l[1].Alight = 7, -9, 2
	if !axiom.Came(people, l) {
		t.Error(l)
	}
	// In another order, and with numbers that aren't their places.
	l[0], l[1] = l[1], l[0]
	if axiom.Came(people, l) {
		t.Error(l)
	}
	other := []api.Passenger{people[1], people[0], people[2]}
	if axiom.Came(other, l) {
		t.Error(other, l)
	}
}

// P48.1 (Timely): each bound that the chapter names.
func TestTimely(t *testing.T) {
	for _, c := range []struct {
		arrive, car, board, alight int
		want                       bool
	}{
		{5, -1, -1, -1, true},
		{5, 0, -1, -1, false},
		{5, -1, -2, -1, false},
		{5, -2, -1, -1, false},
		{5, -1, -1, -2, false},
		{5, -1, -1, 0, false},
		{5, -1, -1, 7, false},
		{200, -1, -1, -1, true},
		{5, 0, 7, -1, true},
		{5, 1, 7, -1, true},
		{5, 2, 7, -1, false},
		{5, -1, 7, -1, false},
		{5, math.MaxInt, 7, 8, false},
		{5, math.MinInt, 7, 8, false},
		{5, 0, 5, -1, true},
		{5, 0, 4, -1, false},
		{5, 0, 0, -1, false},
		{0, 0, 0, -1, true},
		{5, 0, 99, -1, true},
		{5, 0, 100, -1, false},
		{5, 0, 1 << 30, -1, false},
		{5, 0, 7, 8, true},
		{5, 0, 7, 7, false},
		{5, 0, 7, 6, false},
		{5, 0, 7, 0, false},
		{5, 0, 7, -2, false},
		{5, 0, 7, 99, true},
		{5, 0, 7, 100, false},
		{5, 0, 7, 1 << 30, false},
	} {
		l := []api.Trip{{Arrive: c.arrive, Car: c.car, Board: c.board, Alight: c.alight}}
		if got := axiom.Timely(house, l); got != c.want {
			t.Errorf("%v: %v", c, got)
		}
		right := api.Trip{Id: 8, Arrive: 1, Car: 1, Board: 2, Alight: 3}
		if axiom.Timely(house, append(l, right)) != c.want || axiom.Timely(house, append([]api.Trip{right}, l...)) != c.want {
			t.Errorf("%v, of two", c)
		}
	}
	if !axiom.Timely(house, nil) {
		t.Error("nobody")
	}
}

// P48.2 (Way): each thing that the chapter names.
func TestWay(t *testing.T) {
	up := []api.Leg{{Tick: 0, Pos: 0, Dir: 0, Door: true}, {Tick: 10, Pos: 0, Dir: 1}, {Tick: 14, Pos: 3, Door: true}, {Tick: 20, Pos: 3}}
	for _, c := range []struct {
		name string
		car  int
		l    []api.Leg
		want bool
	}{
		{"none", 0, nil, false},
		{"stands", 0, []api.Leg{{}}, true},
		{"stands at another home", 1, []api.Leg{{}}, false},
		{"stands at its own", 1, []api.Leg{{Pos: 6}}, true},
		{"goes up, and opens", 0, up, true},
		{"no such car", -1, []api.Leg{{}}, false},
		{"one car too many", 2, []api.Leg{{Pos: 9}}, false},
		{"begins late", 0, []api.Leg{{Tick: 1}}, false},
		{"begins early", 0, []api.Leg{{Tick: -1}}, false},
		{"goes off at once", 0, []api.Leg{{Pos: 1, Dir: 1}, {Tick: 3, Pos: 3}}, true},
		{"goes off at once, down", 1, []api.Leg{{Pos: 5, Dir: -1}, {Tick: 3, Pos: 3}}, true},
		{"opens at once", 1, []api.Leg{{Pos: 6, Door: true}}, true},
		{"two places at once", 0, []api.Leg{{Pos: 2}}, false},
		{"at once elsewhere, open", 0, []api.Leg{{Pos: 3, Door: true}}, false},
		{"a leg of no tick", 0, []api.Leg{{}, {Tick: 5}, {Tick: 5}}, false},
		{"ticks that fall", 0, []api.Leg{{}, {Tick: 5}, {Tick: 4}}, false},
		{"a first leg of no tick", 0, []api.Leg{{}, {}}, false},
		{"up to the last tick", 0, []api.Leg{{}, {Tick: 99}}, true},
		{"a leg at the horizon", 0, []api.Leg{{}, {Tick: 100}}, false},
		{"a leg behind the horizon", 0, []api.Leg{{}, {Tick: 101}}, false},
		{"a leg that ends behind the horizon", 0, []api.Leg{{}, {Tick: 101}, {Tick: 99}}, false},
		{"a direction too great", 0, []api.Leg{{}, {Tick: 5, Dir: 2}, {Tick: 6, Pos: 0}}, false},
		{"a direction too small", 0, []api.Leg{{}, {Tick: 5, Dir: -2}, {Tick: 6, Pos: 0}}, false},
		{"a greatest direction", 0, []api.Leg{{Dir: math.MaxInt}}, false},
		{"a least direction", 0, []api.Leg{{Dir: math.MinInt}}, false},
		{"below all floors", 0, []api.Leg{{Pos: -1}, {Tick: 1}}, false},
		{"goes below all floors", 0, []api.Leg{{Dir: -1}, {Tick: 2}}, false},
		{"dips below all floors", 0, []api.Leg{{}, {Tick: 5, Pos: -1, Dir: 1}, {Tick: 8, Pos: 2}}, false},
		{"dips beyond the highest one", 0, []api.Leg{{Dir: 1}, {Tick: 10, Pos: 10, Dir: -1}, {Tick: 13, Pos: 7}}, false},
		{"goes up to the highest floor", 0, []api.Leg{{Dir: 1}, {Tick: 10, Pos: 9}}, true},
		{"goes beyond it", 0, []api.Leg{{Dir: 1}, {Tick: 11, Pos: 9}}, false},
		{"goes beyond it up to the horizon", 0, []api.Leg{{Dir: 1}}, false},
		{"beyond it from a leg on", 0, []api.Leg{{Dir: 1}, {Tick: 10, Pos: 10}, {Tick: 11, Pos: 9}}, false},
		{"a leap between legs", 0, []api.Leg{{}, {Tick: 5, Pos: 2}}, false},
		{"a leap back between legs", 0, []api.Leg{{Dir: 1}, {Tick: 4, Pos: 1}}, false},
		{"stops between floors", 0, []api.Leg{{Dir: 1}, {Tick: 2, Pos: 1}}, true},
		{"opens between floors", 0, []api.Leg{{Dir: 1}, {Tick: 2, Pos: 1, Door: true}}, false},
		{"opens between floors for one tick", 0, []api.Leg{{Dir: 1}, {Tick: 2, Pos: 1, Door: true}, {Tick: 3, Pos: 1}}, false},
		{"opens in the tick in which it comes", 0, []api.Leg{{Dir: 1}, {Tick: 3, Pos: 3, Door: true}}, false},
		{"opens behind the tick in which it comes", 0, []api.Leg{{Dir: 1}, {Tick: 4, Pos: 3, Door: true}}, true},
		{"goes off in the tick behind which it isn't open any more", 0, []api.Leg{{Door: true}, {Tick: 5, Pos: 1}}, false},
		{"goes off a tick later", 0, []api.Leg{{Door: true}, {Tick: 5, Dir: 1}, {Tick: 8, Pos: 3}}, true},
		{"goes while open", 0, []api.Leg{{Dir: 1, Door: true}, {Tick: 4, Pos: 3}}, false},
		{"goes while open, for a tick", 0, []api.Leg{{Dir: 1, Door: true}, {Tick: 2, Pos: 1}}, false},
		{"is open for a tick, and doesn't go", 0, []api.Leg{{Dir: 1, Door: true}, {Tick: 1}}, true},
		{"from open to open elsewhere", 0, []api.Leg{{Door: true}, {Tick: 5, Pos: 3, Door: true}}, false},
		{"far beyond", 0, []api.Leg{{}, {Tick: 1 << 30, Pos: 1 << 30}}, false},
		{"far below", 0, []api.Leg{{Pos: -1 << 30}}, false},
	} {
		if got := axiom.Way(house, c.car, c.l); got != c.want {
			t.Errorf("%s: %v", c.name, got)
		}
	}
	// Of two floors; and without a place between them, of a car that has none of its own.
	s := house
	s.Floors, s.Cars = 2, 2
	if axiom.Way(s, -1, []api.Leg{{}}) || axiom.Way(s, 2, []api.Leg{{Pos: 3}}) || !axiom.Way(s, 1, []api.Leg{{Pos: 3}}) {
		t.Error("a car that there isn't")
	}
	s.Floors, s.Gap, s.Cars = 2, 1, 5
	if !axiom.Way(s, 4, []api.Leg{{Pos: 1, Door: true}}) || axiom.Way(s, 4, []api.Leg{{Pos: 2}}) || !axiom.Way(s, 4, []api.Leg{{Pos: 0}}) {
		t.Error("a car at the highest floor")
	}
	s.Gap = 2
	if axiom.Way(s, 4, []api.Leg{{Pos: 1, Door: true}}) {
		t.Error("open between floors at once")
	}
}

// way: P48.2's Way, tick by tick, by the chapter's words alone.
func way(s api.Scenario, car int, legs []api.Leg) bool {
	if len(legs) == 0 || legs[0].Tick != 0 {
		return false
	}
	home := s.Floors - 1
	for f := s.Floors - 1; f >= 0; f-- {
		if f*s.Cars/s.Floors >= car {
			home = f
		}
	}
	was, shut := home*s.Gap, true
	for i, g := range legs {
		end := s.Horizon
		if i+1 < len(legs) {
			end = legs[i+1].Tick
		}
		if end <= g.Tick || end > s.Horizon || g.Dir < -1 || g.Dir > 1 {
			return false
		}
		for tick := g.Tick; tick < end; tick++ {
			pos := g.Pos + (tick-g.Tick)*g.Dir
			if pos < 0 || pos > (s.Floors-1)*s.Gap || g.Door && pos%s.Gap != 0 {
				return false
			}
			if far := max(pos-was, was-pos); far > 1 || far == 1 && (g.Door || !shut) {
				return false
			}
			was, shut = pos, !g.Door
		}
	}
	return true
}

// bent: a way with a change, or a few.
func bent(draw sample.Draw, l []api.Leg) []api.Leg {
	l = slices.Clone(l)
	for range draw(3) {
		g := &l[draw(len(l))]
		switch draw(5) {
		case 0:
			g.Tick += draw(5) - 2
		case 1:
			g.Pos += draw(3) - 1
		case 2:
			g.Dir = draw(5) - 2
		case 3:
			g.Door = !g.Door
		case 4:
			// A leg more, that tells the same, or nearly so.
			more := api.Leg{Tick: g.Tick + draw(3), Pos: g.Pos + draw(3)*g.Dir, Dir: g.Dir, Door: g.Door}
			l = append(l, more)
			slices.SortFunc(l, func(a, b api.Leg) int { return a.Tick - b.Tick })
		}
	}
	return l
}

// P48.2 (Way): of ways of runs, with some changes.
func TestWayDrawn(t *testing.T) {
	right, wrong := 0, 0
	for seed := range uint64(300) {
		draw := draw(seed)
		s, _, l := ran(draw)
		for range 10 {
			car := draw(s.Cars)
			legs := bent(draw, l.Legs[car])
			want := way(s, car, legs)
			if got := axiom.Way(s, car, legs); got != want {
				t.Fatalf("%v, car %d, %v: %v", s, car, legs, got)
			}
			if want {
				right++
			} else {
				wrong++
			}
		}
	}
	if right < 300 || wrong < 300 {
		t.Error(right, wrong)
	}
}

// P48.2 (Placed): each thing that the chapter names.
func TestPlaced(t *testing.T) {
	// Car 0 is open at floor 0 behind the ticks 0 to 9, at floor 1 from 14 on; car 1 is open at floor 2 behind 5 to 9, and then closed there.
	legs := [][]api.Leg{
		{{Door: true}, {Tick: 10, Dir: 1}, {Tick: 14, Pos: 3, Door: true}},
		{{Pos: 6}, {Tick: 5, Pos: 6, Door: true}, {Tick: 10, Pos: 6}},
	}
	for _, c := range []struct {
		name string
		trip api.Trip
		want bool
	}{
		{"in and out", of(0, 1, 0, 3, 14), true},
		{"in at once", of(0, 1, 0, 0, 20), true},
		{"in elsewhere at once", of(1, 1, 0, 0, 14), false},
		{"out elsewhere at once", of(0, 1, 0, 3, 0), false},
		{"in at the last tick", of(0, 1, 0, 9, 1<<30), true},
		{"in a tick too late", of(0, 1, 0, 10, 14), false},
		{"out a tick too early", of(0, 1, 0, 3, 13), false},
		{"in elsewhere", of(1, 1, 0, 3, 14), false},
		{"out elsewhere", of(0, 2, 0, 3, 14), false},
		{"out where they came", of(0, 1, 0, 3, 4), false},
		{"in between floors", of(0, 1, 0, 11, 14), false},
		{"rides", of(0, 3, 0, 3, -1), true},
		{"rides, in elsewhere", of(3, 0, 0, 3, -1), false},
		{"rides, a time below -1", of(0, 3, 0, 3, math.MinInt), true},
		{"waits", of(3, 0, -1, -1, -1), true},
		{"waits, with whatever else", of(3, 0, 9, -5, 14), true},
		{"by the other car", of(2, 2, 1, 5, 9), true},
		{"by the other car, early", of(2, 2, 1, 4, 9), false},
		{"by the other car, out late", of(2, 2, 1, 5, 10), false},
		{"by the wrong one", of(0, 1, 1, 3, 14), false},
		{"no such car", of(0, 1, 2, 3, 14), false},
		{"no such car, below 0", of(0, 1, -1, 3, 14), false},
		{"no such car, far off", of(0, 1, math.MaxInt, 3, -1), false},
		{"no such floor", of(-1, 1, 0, 3, -1), false},
		{"no such floor, whose place would be none", of(math.MinInt, 1, 0, 3, -1), false},
		{"no such floor to get out", of(0, math.MaxInt, 0, 3, 14), false},
	} {
		got := axiom.Placed(house, api.Log{Trips: []api.Trip{c.trip}, Legs: legs})
		if got != c.want {
			t.Errorf("%s: %v", c.name, got)
		}
		right := of(0, 1, 0, 5, 14)
		for _, l := range [][]api.Trip{{right, c.trip}, {c.trip, right}} {
			if axiom.Placed(house, api.Log{Trips: l, Legs: legs}) != c.want {
				t.Errorf("%s: of two", c.name)
			}
		}
	}
	if axiom.Placed(house, api.Log{Trips: []api.Trip{of(0, 1, 0, 3, -1)}}) || !axiom.Placed(house, api.Log{Legs: legs}) || !axiom.Placed(house, api.Log{}) {
		t.Error("of no legs, or nobody")
	}
	// A floor whose place has no number isn't where the car is.
	s := house
	s.Gap = 16
	if axiom.Placed(s, api.Log{Trips: []api.Trip{of(1<<60, 1, 0, 3, -1)}, Legs: legs}) {
		t.Error("in at floor 2^60")
	}
	// Open between floors; legs that begin later; a car without legs.
	for pos, want := range map[int]bool{-3: false, -1: false, 0: true, 1: false, 2: false, 3: false} {
		if got := axiom.Placed(house, api.Log{Trips: []api.Trip{of(0, 1, 0, 3, -1)}, Legs: [][]api.Leg{{{Pos: pos, Door: true}}}}); got != want {
			t.Errorf("at %d: %v", pos, got)
		}
	}
	late := [][]api.Leg{{{Tick: 4, Door: true}}, nil}
	for _, c := range []struct {
		trip api.Trip
		want bool
	}{{of(0, 1, 0, 4, -1), true}, {of(0, 1, 0, 3, -1), false}, {of(0, 0, 1, 4, -1), false}} {
		if got := axiom.Placed(house, api.Log{Trips: []api.Trip{c.trip}, Legs: late}); got != c.want {
			t.Errorf("%v: %v", c.trip, got)
		}
	}
}

// P48.3 (Fits): each thing that the chapter names. Two fit in.
func TestFits(t *testing.T) {
	for _, c := range []struct {
		name string
		l    []api.Trip
		want bool
	}{
		{"nobody", nil, true},
		{"two", []api.Trip{of(0, 1, 0, 3, 20), of(0, 1, 0, 7, 24)}, true},
		{"three", []api.Trip{of(0, 1, 0, 3, 20), of(0, 1, 0, 7, 24), of(0, 1, 0, 11, 28)}, false},
		{"three, who never get out", []api.Trip{of(0, 1, 0, 3, -1), of(0, 1, 0, 7, -1), of(0, 1, 0, 11, -1)}, false},
		{"three in another order", []api.Trip{of(0, 1, 0, 11, 28), of(0, 1, 0, 3, 20), of(0, 1, 0, 7, 24)}, false},
		{"two, and one of another car", []api.Trip{of(0, 1, 0, 3, 20), of(0, 1, 1, 7, 24), of(0, 1, 0, 11, 28)}, true},
		{"three of another car", []api.Trip{of(0, 1, 1, 3, 20), of(0, 1, 1, 7, 24), of(0, 1, 1, 11, 28)}, false},
		{"two, and one who waits", []api.Trip{of(0, 1, 0, 3, 20), of(0, 1, 0, -1, -1), of(0, 1, 0, 11, 28)}, true},
		{"one behind the other's end", []api.Trip{of(0, 1, 0, 3, 20), of(0, 1, 0, 7, 24), of(0, 1, 0, 21, 28)}, true},
		{"one in the tick of the other's end", []api.Trip{of(0, 1, 0, 3, 20), of(0, 1, 0, 7, 24), of(0, 1, 0, 20, 28)}, true},
		{"one ahead of the other's end", []api.Trip{of(0, 1, 0, 3, 20), of(0, 1, 0, 7, 24), of(0, 1, 0, 19, 28)}, false},
		{"three at one tick", []api.Trip{of(0, 1, 0, 3, 20), of(0, 1, 0, 3, 20), of(0, 1, 0, 3, 20)}, false},
		{"three at the tick 0", []api.Trip{of(0, 1, 0, 0, 20), of(0, 1, 0, 0, 20), of(0, 1, 0, 0, 20)}, false},
		{"one who is out in the same tick", []api.Trip{of(0, 1, 0, 3, 20), of(0, 1, 0, 3, 20), of(0, 1, 0, 4, 4)}, true},
		{"one who is out at the tick 0", []api.Trip{of(0, 1, 0, 0, 20), of(0, 1, 0, 0, 20), of(0, 1, 0, 0, 0)}, true},
		{"one who is out ahead of it", []api.Trip{of(0, 1, 0, 3, 20), of(0, 1, 0, 3, 20), of(0, 1, 0, 14, 4)}, true},
		{"in order, ahead of all three", []api.Trip{of(0, 1, 0, 9, 2), of(0, 1, 0, 1, 3), of(0, 1, 0, 1, 3), of(0, 1, 0, 2, 3)}, false},
		{"a car that there isn't", []api.Trip{of(0, 1, -1, 3, 20), of(0, 1, -1, 3, 20), of(0, 1, -1, 3, 20)}, false},
		{"of many cars", []api.Trip{of(0, 1, math.MinInt, 3, -1), of(0, 1, math.MaxInt, 3, -1), of(0, 1, 0, 3, -1), of(0, 1, math.MaxInt, 3, -1)}, true},
	} {
		if got := axiom.Fits(house, c.l); got != c.want {
			t.Errorf("%s: %v", c.name, got)
		}
	}
}

// P48.3 (Fair): each thing that the chapter names, of two: what is asked by calls, and under Destination.
func TestFair(t *testing.T) {
	for _, c := range []struct {
		name                string
		first, second       api.Trip
		called, destination bool
	}{
		{"one behind the other", of(0, 1, 0, 3, -1), of(0, 1, 0, 7, -1), true, true},
		{"to another floor", of(0, 3, 0, 3, -1), of(0, 1, 0, 7, -1), true, true},
		{"passed", of(0, 1, 0, 7, -1), of(0, 1, 0, 3, -1), false, false},
		{"passed, to another floor", of(0, 3, 0, 7, -1), of(0, 1, 0, 3, -1), false, false},
		{"passed, down", of(2, 1, 0, 7, -1), of(2, 0, 0, 3, -1), false, false},
		{"passed by the other car", of(0, 1, 0, 7, -1), of(0, 1, 1, 3, -1), false, true},
		{"from another floor", of(0, 2, 0, 7, -1), of(1, 2, 0, 3, -1), true, true},
		{"the other way", of(1, 0, 0, 7, -1), of(1, 2, 0, 3, -1), true, true},
		{"at once, by one car", of(0, 1, 0, 7, -1), of(0, 1, 0, 7, -1), false, false},
		{"at once at the tick 0, by one car", of(0, 1, 0, 0, -1), of(0, 1, 0, 0, -1), false, false},
		{"passed at the tick 0", of(0, 1, 0, 7, -1), of(0, 1, 0, 0, -1), false, false},
		{"at once, by a greater car", of(0, 1, 0, 7, -1), of(0, 1, 1, 7, -1), true, true},
		{"at once, by a lesser car", of(0, 1, 1, 7, -1), of(0, 1, 0, 7, -1), false, true},
		{"a tick later, by a lesser car", of(0, 1, 1, 7, -1), of(0, 1, 0, 8, -1), true, true},
		{"both wait", of(0, 1, -1, -1, -1), of(0, 1, -1, -1, -1), true, true},
		{"the second one waits", of(0, 1, 0, 7, -1), of(0, 1, -1, -1, -1), true, true},
		{"the first one waits", of(0, 1, -1, -1, -1), of(0, 1, 0, 7, -1), false, true},
		{"the first one waits, at the tick 0", of(0, 1, -1, -1, -1), of(0, 1, 0, 0, -1), false, true},
		{"the first one waits, from another floor", of(1, 2, -1, -1, -1), of(0, 1, 0, 7, -1), true, true},
		{"both of no way", of(1, 1, 0, 7, -1), of(1, 1, 0, 3, -1), false, false},
		{"of no way, and up", of(1, 1, 0, 7, -1), of(1, 2, 0, 3, -1), true, true},
		{"at the greatest floors", of(math.MinInt, math.MaxInt, 0, 7, -1), of(math.MinInt, 0, 0, 3, -1), false, false},
	} {
		l := []api.Trip{c.first, c.second}
		for d := api.Collective; d <= api.Soonest; d++ {
			if got := axiom.Fair(by(d), l); got != c.called {
				t.Errorf("%s: dispatcher %d: %v", c.name, d, got)
			}
		}
		if got := axiom.Fair(by(api.Destination), l); got != c.destination {
			t.Errorf("%s: under Destination: %v", c.name, got)
		}
		// Others between them change nothing of that.
		l = []api.Trip{of(3, 0, 1, 50, -1), c.first, of(3, 2, 1, 60, -1), of(3, 1, -1, -1, -1), c.second, of(3, 1, -1, -1, -1)}
		if axiom.Fair(house, l) != c.called || axiom.Fair(by(api.Destination), l) != c.destination {
			t.Errorf("%s: with others", c.name)
		}
	}
	// Of three: the first and the last; when they came isn't asked, but their places in the row.
	l := []api.Trip{of(0, 1, 0, 9, -1), of(0, 1, 1, 10, -1), of(0, 1, 0, 3, -1)}
	if axiom.Fair(house, l) || axiom.Fair(by(api.Destination), l) {
		t.Error("the third one passed")
	}
	l = []api.Trip{of(0, 1, 0, 3, -1), of(0, 1, -1, -1, -1), of(0, 1, 0, 9, -1)}
	if axiom.Fair(house, l) || !axiom.Fair(by(api.Destination), l) {
		t.Error("the second one waits")
	}
	l = []api.Trip{{Arrive: 9, From: 0, To: 1, Board: 10, Alight: -1}, {Arrive: 2, From: 0, To: 1, Board: 11, Alight: -1}}
	if !axiom.Fair(house, l) || !axiom.Fair(house, nil) || !axiom.Fair(by(api.Destination), nil) {
		t.Error("in their row")
	}
}

// P48.3 (Paced): each thing that the chapter names. A transfer takes 4.
func TestPaced(t *testing.T) {
	for _, c := range []struct {
		name string
		l    []api.Trip
		want bool
	}{
		{"nobody", nil, true},
		{"one", []api.Trip{of(0, 1, 0, 3, 7)}, true},
		{"one, too soon", []api.Trip{of(0, 1, 0, 3, 6)}, false},
		{"one, at once", []api.Trip{of(0, 1, 0, 3, 3)}, false},
		{"one, out first", []api.Trip{of(0, 1, 0, 7, 3)}, true},
		{"one, out first, too soon", []api.Trip{of(0, 1, 0, 6, 3)}, false},
		{"one, of no car", []api.Trip{of(0, 1, -1, 3, 7)}, true},
		{"one, of no car, too soon", []api.Trip{of(0, 1, -1, 3, 6)}, false},
		{"one, of no car, from the tick 0 on", []api.Trip{of(0, 1, -1, 0, 3)}, false},
		{"one, of no car, out at the tick 0", []api.Trip{of(0, 1, -1, 3, 0)}, false},
		{"one, of no car, who never got in", []api.Trip{of(0, 1, -1, -1, 1), of(0, 1, -1, 1, -1)}, true},
		{"one, of no car, out first, too soon", []api.Trip{of(0, 1, -2, 6, 3)}, false},
		{"one who rides", []api.Trip{of(0, 1, 0, 3, -1)}, true},
		{"one from the tick 0 on", []api.Trip{of(0, 1, 0, 0, 3)}, false},
		{"one who never got in", []api.Trip{of(0, 1, 0, -1, 1)}, true},
		{"one out at the tick 0", []api.Trip{of(0, 1, 0, 3, 0)}, false},
		{"two in", []api.Trip{of(0, 1, 0, 3, -1), of(0, 1, 0, 7, -1)}, true},
		{"two in, too soon", []api.Trip{of(0, 1, 0, 3, -1), of(0, 1, 0, 6, -1)}, false},
		{"two in, too soon, in another order", []api.Trip{of(0, 1, 0, 6, -1), of(0, 1, 0, 3, -1)}, false},
		{"two in at once", []api.Trip{of(0, 1, 0, 3, -1), of(0, 1, 0, 3, -1)}, false},
		{"two in at once, by two cars", []api.Trip{of(0, 1, 0, 3, -1), of(0, 1, 1, 3, -1)}, true},
		{"two in at once, by no car", []api.Trip{of(0, 1, -1, 3, -1), of(0, 1, -1, 3, -1)}, true},
		{"one in, one out", []api.Trip{of(0, 1, 0, 3, 20), of(0, 1, 0, 24, -1)}, true},
		{"one in, one out, too soon", []api.Trip{of(0, 1, 0, 3, 20), of(0, 1, 0, 23, -1)}, false},
		{"one out, one in, too soon", []api.Trip{of(0, 1, 0, 3, 20), of(0, 1, 0, 17, -1)}, false},
		{"two out", []api.Trip{of(0, 1, 1, 3, 20), of(0, 1, 1, 7, 24)}, true},
		{"two out, too soon", []api.Trip{of(0, 1, 1, 3, 20), of(0, 1, 1, 7, 23)}, false},
		{"two out, who never got in", []api.Trip{of(0, 1, 1, -1, 20), of(0, 1, 1, -1, 23)}, false},
		{"two who wait", []api.Trip{of(0, 1, 1, -1, -1), of(0, 1, 1, -1, -1)}, true},
		{"one who waits, one in", []api.Trip{of(0, 1, 1, -1, -1), of(0, 1, 1, 0, -1)}, true},
		{"three, the first and the last too soon", []api.Trip{of(0, 1, 0, 3, -1), of(0, 1, 0, 30, -1), of(0, 1, 0, 5, -1)}, false},
		{"of many cars", []api.Trip{of(0, 1, math.MaxInt, 3, 30), of(0, 1, 7, 4, 31), of(0, 1, math.MinInt, 5, 32)}, true},
	} {
		if got := axiom.Paced(house, c.l); got != c.want {
			t.Errorf("%s: %v", c.name, got)
		}
	}
}

// fits: P48.3's Fits, by the chapter's words.
func fits(s api.Scenario, l []api.Trip) bool {
	return !slices.ContainsFunc(l, func(r api.Trip) bool { return r.Board >= 0 && len(trip.Load(l, r.Car, r.Board)) > s.Capacity })
}

func sign(n int) int { return max(-1, min(1, n)) }

// fair: P48.3's Fair, by the chapter's words.
func fair(s api.Scenario, l []api.Trip) bool {
	for i, a := range l {
		for _, b := range l[i+1:] {
			if a.From != b.From || sign(a.To-a.From) != sign(b.To-b.From) || b.Board < 0 {
				continue
			}
			if s.Dispatcher == api.Destination {
				if a.Car == b.Car && b.Board <= a.Board {
					return false
				}
			} else if a.Board < 0 || a.Board > b.Board || a.Board == b.Board && a.Car >= b.Car {
				return false
			}
		}
	}
	return true
}

// paced: P48.3's Paced, by the chapter's words.
func paced(s api.Scenario, l []api.Trip) bool {
	near := func(a, b int) bool { return a >= 0 && b >= 0 && max(a-b, b-a) < s.Transfer }
	for i, a := range l {
		if near(a.Board, a.Alight) {
			return false
		}
		for _, b := range l[i+1:] {
			if a.Car == b.Car && a.Car >= 0 && (near(a.Board, b.Board) || near(a.Board, b.Alight) || near(a.Alight, b.Board) || near(a.Alight, b.Alight)) {
				return false
			}
		}
	}
	return true
}

// moved: trips, with a change of one, or a few.
func moved(draw sample.Draw, l []api.Trip) []api.Trip {
	l = slices.Clone(l)
	for range draw(4) {
		if len(l) == 0 {
			break
		}
		r := &l[draw(len(l))]
		switch draw(5) {
		case 0:
			r.Board += draw(9) - 4
		case 1:
			r.Alight += draw(9) - 4
		case 2:
			r.Car = draw(4) - 1
		case 3:
			r.Board, r.Alight = -1, -1
		case 4:
			other := &l[draw(len(l))]
			r.Board, other.Board = other.Board, r.Board
		}
	}
	return l
}

// P48.3: of trips of runs, with some changes, and of any trips.
func TestTripsDrawn(t *testing.T) {
	var told [3][2]int
	check := func(s api.Scenario, l []api.Trip) {
		t.Helper()
		got := [...]bool{axiom.Fits(s, l), axiom.Fair(s, l), axiom.Paced(s, l)}
		if want := [...]bool{fits(s, l), fair(s, l), paced(s, l)}; got != want {
			t.Fatalf("%v, %v: %v; want %v", s, l, got, want)
		}
		for i, ok := range got {
			if ok {
				told[i][0]++
			} else {
				told[i][1]++
			}
		}
	}
	for seed := range uint64(1500) {
		draw := draw(seed)
		s, _, l := ran(draw)
		check(s, moved(draw, l.Trips))
		check(s, sample.Trips(draw, draw(8), 2, 2, 40))
		s.Capacity, s.Transfer = 1+draw(s.Capacity), 1+draw(s.Transfer+2)
		check(s, l.Trips)
	}
	for i, n := range told {
		if n[0] < 300 || n[1] < 300 {
			t.Errorf("number %d: %v", i, n)
		}
	}
}

// P48.3: of as many as may come this takes no time worth speaking of.
func TestMany(t *testing.T) {
	const many = 200_000
	s := house
	s.Transfer = 1
	var l []api.Trip
	for id := range many {
		l = append(l, of(0, 1, id%2, 4*(id/2), 4*(id/2)+2))
	}
	for d := api.Collective; d <= api.Destination; d++ {
		s := s
		s.Dispatcher = d
		if !axiom.Fits(s, l) || !axiom.Fair(s, l) || !axiom.Paced(s, l) {
			t.Errorf("dispatcher %d", d)
		}
	}
	l[many-1].Board = 0
	if axiom.Fair(s, l) || axiom.Paced(s, l) {
		t.Error("the last one passed")
	}
}

// fine: a log of four who came.
func fine() (api.Scenario, []api.Passenger, api.Log) {
	people := []api.Passenger{{Id: 0, Tick: 0, From: 0, To: 3}, {Id: 1, Tick: 0, From: 0, To: 3}, {Id: 2, Tick: 4, From: 0, To: 3}, {Id: 3, Tick: 9, From: 3, To: 0}}
	return house, people, tick.Run(house, people)
}

// P48.4: each number, and the first of several that aren't so.
func TestCheck(t *testing.T) {
	s, people, l := fine()
	if got := axiom.Check(s, people, l); got != axiom.Fine {
		t.Fatal(got, l)
	}
	// From the last one to the first one, with all behind it left as wrong as they are.
	for _, c := range []struct {
		want   int
		change func()
	}{
		{axiom.Pace, func() { s.Transfer++ }},
		{axiom.Order, func() { swap(&l.Trips[0], &l.Trips[1]) }},
		{axiom.Load, func() { s.Capacity = 1 }},
		{axiom.Places, func() { shut(l.Legs[0]) }},
		{axiom.Doors, func() { l.Legs[1][0].Pos += 2 }},
		{axiom.Ways, func() { l.Legs = append(l.Legs, l.Legs[0]) }},
		{axiom.Times, func() { l.Trips[2].Alight = l.Trips[2].Board }},
		{axiom.People, func() { people[2].Tick++ }},
	} {
		if c.change(); axiom.Check(s, people, l) != c.want {
			t.Errorf("%d; want %d: %v", axiom.Check(s, people, l), c.want, l)
		}
	}
}

// swap: two who got in did so in each other's stead.
func swap(a, b *api.Trip) { a.Board, b.Board = b.Board, a.Board }

// shut: the car goes as it did, and its door never opens.
func shut(l []api.Leg) {
	for i := range l {
		l[i].Door = false
	}
}

// P48.4: each number by itself.
func TestCheckEach(t *testing.T) {
	for _, c := range []struct {
		want   int
		change func(s *api.Scenario, people []api.Passenger, l *api.Log)
	}{
		{axiom.People, func(s *api.Scenario, people []api.Passenger, l *api.Log) { people[0].To = 2 }},
		{axiom.People, func(s *api.Scenario, people []api.Passenger, l *api.Log) { l.Trips = l.Trips[:3] }},
		{axiom.Times, func(s *api.Scenario, people []api.Passenger, l *api.Log) { l.Trips[3].Car = 2 }},
		{axiom.Ways, func(s *api.Scenario, people []api.Passenger, l *api.Log) { l.Legs = l.Legs[:1] }},
		{axiom.Ways, func(s *api.Scenario, people []api.Passenger, l *api.Log) { l.Legs = nil }},
		{axiom.Ways, func(s *api.Scenario, people []api.Passenger, l *api.Log) { s.Cars = 3 }},
		{axiom.Doors, func(s *api.Scenario, people []api.Passenger, l *api.Log) { l.Legs[1] = nil }},
		{axiom.Doors, func(s *api.Scenario, people []api.Passenger, l *api.Log) { l.Legs[0], l.Legs[1] = l.Legs[1], l.Legs[0] }},
		{axiom.Doors, func(s *api.Scenario, people []api.Passenger, l *api.Log) { l.Legs[0][1].Door = true }},
		{axiom.Places, func(s *api.Scenario, people []api.Passenger, l *api.Log) { l.Trips[0].Alight = 98 }},
		{axiom.Places, func(s *api.Scenario, people []api.Passenger, l *api.Log) { l.Trips[0].Car = 1 - l.Trips[0].Car }},
		{axiom.Load, func(s *api.Scenario, people []api.Passenger, l *api.Log) { s.Capacity = 1 }},
		{axiom.Order, func(s *api.Scenario, people []api.Passenger, l *api.Log) { swap(&l.Trips[0], &l.Trips[1]) }},
		{axiom.Pace, func(s *api.Scenario, people []api.Passenger, l *api.Log) { s.Transfer++ }},
		{axiom.Fine, func(s *api.Scenario, people []api.Passenger, l *api.Log) { l.Used = 77 }},
	} {
		s, people, l := fine()
		if c.change(&s, people, &l); axiom.Check(s, people, l) != c.want {
			t.Errorf("%d; want %d: %v", axiom.Check(s, people, l), c.want, l)
		}
	}
}

// P48.4, and the chapter's example: the zero log, with nobody, of one car; the numbers are those of the chapter's order.
func TestExample(t *testing.T) {
	s := house
	s.Cars = 1
	if got := axiom.Check(s, nil, api.Log{}); got != axiom.Ways {
		t.Error(got)
	}
	if got := axiom.Check(s, nil, api.Log{Legs: [][]api.Leg{nil}}); got != axiom.Doors {
		t.Error(got)
	}
	if got := axiom.Check(s, nil, api.Log{Legs: [][]api.Leg{{{}}}}); got != axiom.Fine {
		t.Error(got)
	}
	numbers := []int{axiom.Fine, axiom.People, axiom.Times, axiom.Ways, axiom.Doors, axiom.Places, axiom.Load, axiom.Order, axiom.Pace}
	if !slices.Equal(numbers, []int{0, 1, 2, 3, 4, 5, 6, 7, 8}) {
		t.Error(numbers)
	}
}

// P48.5: each run's log is Fine, from event to event, and tick by tick.
func TestRuns(t *testing.T) {
	for seed := range uint64(3000) {
		s, people, l := ran(draw(seed))
		if got := axiom.Check(s, people, l); got != axiom.Fine {
			t.Fatalf("seed %d, %v, %v: %d: %v", seed, s, people, got, l)
		}
		if seed%10 != 0 {
			continue
		}
		if got := axiom.Check(s, people, tick.Run(s, people)); got != axiom.Fine {
			t.Fatalf("seed %d, %v, %v: %d, tick by tick", seed, s, people, got)
		}
	}
}

// P48.5: of a great building, with traffic as layer 28 draws it, and of the least one.
func TestRunsTraffic(t *testing.T) {
	great := api.Scenario{
		Floors: api.MaxFloors, Gap: 2, Cars: api.MaxCars, Capacity: 3, Open: 2, Dwell: 3, Close: 2, Transfer: 1, Horizon: 3000, Bins: 1, Width: 1,
		Segments: []api.Segment{{Kind: api.UpPeak, Ticks: 700, Rate: 900}, {Kind: api.Lunch, Ticks: 700, Rate: 400}, {Kind: api.DownPeak, Ticks: 700, Rate: 600}, {Kind: api.Interfloor, Ticks: 700, Rate: 300}},
	}
	least := api.Scenario{
		Floors: 2, Gap: 1, Cars: 1, Capacity: 1, Open: 1, Dwell: 1, Close: 1, Transfer: 1, Horizon: 3000, Bins: 1, Width: 1,
		Segments: []api.Segment{{Kind: api.Interfloor, Ticks: 3000, Rate: 200}},
	}
	for _, s := range []api.Scenario{great, least} {
		for s.Dispatcher = api.Collective; s.Dispatcher <= api.Destination; s.Dispatcher++ {
			people, _, e := arrive.List(s, api.Stream{Words: lcg.Make(48, 9000)})
			if e != api.OK || len(people) < 400 {
				t.Fatal(e, len(people))
			}
			if got := axiom.Check(s, people, engine.Run(s, people)); got != axiom.Fine {
				t.Errorf("%v: %d", s, got)
			}
		}
	}
}

// Asking changes nothing of what is handed in.
func TestHandedIn(t *testing.T) {
	s, people, l := fine()
	_, peopleKept, kept := fine()
	l.Trips[0], l.Trips[3] = l.Trips[3], l.Trips[0]
	kept.Trips[0], kept.Trips[3] = kept.Trips[3], kept.Trips[0]
	axiom.Check(s, people, l)
	axiom.Fits(s, l.Trips)
	axiom.Fair(s, l.Trips)
	axiom.Paced(s, l.Trips)
	if !slices.Equal(people, peopleKept) || !slices.Equal(l.Trips, kept.Trips) || !slices.EqualFunc(l.Legs, kept.Legs, slices.Equal[[]api.Leg]) {
		t.Error(people, l)
	}
}

// P1: whatever comes, all of it ends.
func TestEnds(t *testing.T) {
	numbers := []int{math.MinInt, -1, 0, 1, 5, math.MaxInt}
	for _, a := range numbers {
		for _, b := range numbers {
			for _, c := range numbers {
				l := api.Log{
					Trips: []api.Trip{{Id: a, Arrive: b, From: c, To: a, Car: b, Board: c, Alight: a}, of(a, b, 0, c, b), of(b, a, 1, a, c)},
					Legs:  [][]api.Leg{{{Tick: a, Pos: b, Dir: c, Door: true}, {Tick: b, Pos: c, Dir: a}}, {{Pos: a, Dir: b}}},
				}
				people := []api.Passenger{{Id: a, Tick: b, From: c, To: a}}
				wrong := api.Scenario{Floors: a, Gap: b, Cars: c, Capacity: a, Open: b, Dwell: c, Close: a, Transfer: b, Dispatcher: api.Dispatcher(c), Horizon: a}
				for _, s := range []api.Scenario{house, by(api.Destination), wrong} {
					axiom.Check(s, people, l)
					axiom.Came(people, l.Trips)
					axiom.Timely(s, l.Trips)
					axiom.Placed(s, l)
					axiom.Fits(s, l.Trips)
					axiom.Fair(s, l.Trips)
					axiom.Paced(s, l.Trips)
					for car := range 3 {
						axiom.Way(s, car*a, l.Legs[0])
						axiom.Way(s, car, l.Legs[1])
					}
				}
			}
		}
	}
}
