package diff_test

import (
	"math"
	"math/rand/v2"
	"slices"
	"testing"

	"hoistway/api"
	"hoistway/diff"
	"hoistway/sample"
	"hoistway/track"
)

var row = []api.Trip{{Id: 0, Arrive: 1, From: 2, To: 3, Car: 4, Board: 5, Alight: 6}, {Id: 1, Car: -1, Board: -1, Alight: -1}, {Id: 2, Board: 9, Alight: -1}}

// others: a trip with each of its numbers another one.
func others(t api.Trip) []api.Trip {
	l := slices.Repeat([]api.Trip{t}, 7)
	l[0].Id++
	l[1].Arrive++
	l[2].From++
	l[3].To++
	l[4].Car++
	l[5].Board++
	l[6].Alight++
	return l
}

// with: a row with another thing at a place.
func with[T any](l []T, i int, x T) []T {
	l = slices.Clone(l)
	l[i] = x
	return l
}

// P38.1
func TestTrips(t *testing.T) {
	for _, c := range []struct {
		a, b []api.Trip
		want int
		ok   bool
	}{
		{nil, nil, 0, false}, {nil, []api.Trip{}, 0, false}, {row, slices.Clone(row), 0, false}, {nil, row, 0, true}, {row, nil, 0, true}, {row, row[:2], 2, true}, {row[:1], row, 1, true}, {row[1:], row, 0, true}, {row, with(row[:2], 1, row[2]), 1, true},
	} {
		if got, ok := diff.Trips(c.a, c.b); got != c.want || ok != c.ok {
			t.Errorf("Trips(%v, %v): %d, %v; want %d", c.a, c.b, got, ok, c.want)
		}
	}
	for i := range row {
		for _, x := range others(row[i]) {
			if got, ok := diff.Trips(row, with(row, i, x)); got != i || !ok {
				t.Errorf("%v for %v: %d, %v", x, row[i], got, ok)
			}
		}
	}
}

var legs = []api.Leg{{Tick: 0, Pos: 3, Dir: 1}, {Tick: 5, Pos: 8, Door: true}, {Tick: 9, Pos: 7, Dir: -1}}

// otherLegs: a leg with each of what it tells another one.
func otherLegs(g api.Leg) []api.Leg {
	l := slices.Repeat([]api.Leg{g}, 4)
	l[0].Tick++
	l[1].Pos++
	l[2].Dir++
	l[3].Door = !l[3].Door
	return l
}

// P38.1
func TestLegs(t *testing.T) {
	if !diff.Legs(nil, nil) || !diff.Legs(nil, []api.Leg{}) || !diff.Legs(legs, slices.Clone(legs)) {
		t.Error("the same legs")
	}
	if diff.Legs(nil, legs) || diff.Legs(legs, nil) || diff.Legs(legs, legs[:2]) || diff.Legs(legs[1:], legs) {
		t.Error("fewer legs")
	}
	for i := range legs {
		for _, g := range otherLegs(legs[i]) {
			if diff.Legs(legs, with(legs, i, g)) {
				t.Errorf("%v for %v", g, legs[i])
			}
		}
	}
	// Other legs are other ones, though they tell the same way.
	if diff.Legs([]api.Leg{{}, {Tick: 3}}, []api.Leg{{}}) {
		t.Error("one way in two kinds of legs")
	}
}

// P38.1
func TestSame(t *testing.T) {
	log := api.Log{Trips: row, Legs: [][]api.Leg{legs, nil, legs[:1]}, Used: 7}
	other := func(change func(*api.Log)) api.Log {
		l := api.Log{Trips: slices.Clone(log.Trips), Legs: slices.Clone(log.Legs), Used: log.Used}
		change(&l)
		return l
	}
	for _, c := range []struct {
		name string
		a, b api.Log
		want bool
	}{
		{"none", api.Log{}, api.Log{Trips: []api.Trip{}, Legs: [][]api.Leg{}}, true},
		{"itself", log, log, true},
		{"a copy", log, other(func(l *api.Log) {}), true},
		{"an empty list for a nil one", log, other(func(l *api.Log) { l.Legs[1] = []api.Leg{} }), true},
		{"Used", log, other(func(l *api.Log) { l.Used = 8 }), false},
		{"a trip", log, other(func(l *api.Log) { l.Trips[2].Alight = 99 }), false},
		{"fewer trips", log, other(func(l *api.Log) { l.Trips = l.Trips[:2] }), false},
		{"a car's legs", log, other(func(l *api.Log) { l.Legs[2] = legs[:2] }), false},
		{"cars the other way round", log, other(func(l *api.Log) { slices.Reverse(l.Legs) }), false},
		{"fewer cars", log, other(func(l *api.Log) { l.Legs = l.Legs[:2] }), false},
		{"a car without legs more", log, other(func(l *api.Log) { l.Legs = append(l.Legs, nil) }), false},
	} {
		if diff.Same(c.a, c.b) != c.want || diff.Same(c.b, c.a) != c.want {
			t.Errorf("%s: not %v", c.name, c.want)
		}
	}
}

// P38.2
func TestWays(t *testing.T) {
	for _, c := range []struct {
		name    string
		a, b    []api.Leg
		horizon int
		want    int
		ok      bool
	}{
		{"none", nil, nil, 9, 0, false},
		{"the same", legs, slices.Clone(legs), 99, 0, false},
		{"one alone", legs, nil, 9, 0, true},
		{"one alone, no tick", nil, legs, 0, 0, false},
		{"one alone, no tick", nil, legs, -1, 0, false},
		{"one that begins later", []api.Leg{{Tick: 4}}, []api.Leg{{Tick: 6}}, 9, 4, true},
		{"one that begins later", []api.Leg{{Tick: 4}}, []api.Leg{{Tick: 6}}, 4, 0, false},
		{"ahead of tick 0 nothing counts", []api.Leg{{Tick: -5, Pos: 3}, {Tick: 0}}, []api.Leg{{Tick: -2}}, 9, 0, false},
		{"from ahead of tick 0 on", []api.Leg{{Tick: -5, Pos: -5, Dir: 1}}, []api.Leg{{Tick: -2}}, 9, 1, true},
		{"other legs of one way", []api.Leg{{}, {Tick: 3}, {Tick: 4, Pos: 1, Dir: 1}}, []api.Leg{{}, {Tick: 3, Dir: 1}}, 99, 0, false},
		{"places", legs, with(legs, 1, api.Leg{Tick: 5, Pos: 9, Door: true}), 99, 5, true},
		{"doors", legs, with(legs, 2, api.Leg{Tick: 9, Pos: 7, Dir: -1, Door: true}), 99, 9, true},
		{"doors, ahead of that", legs, with(legs, 2, api.Leg{Tick: 9, Pos: 7, Dir: -1, Door: true}), 9, 0, false},
		{"ways that part behind a leg's first tick", legs, with(legs, 2, api.Leg{Tick: 9, Pos: 7}), 99, 10, true},
		{"ways that part behind a leg's first tick, ahead of that", legs, with(legs, 2, api.Leg{Tick: 9, Pos: 7}), 10, 0, false},
		{"ways that cross", []api.Leg{{Dir: 1}}, []api.Leg{{Pos: 9, Dir: -1}}, 99, 0, true},
		{"far away", []api.Leg{{}, {Tick: 1 << 30}}, []api.Leg{{}, {Tick: 1 << 30, Dir: 1}}, math.MaxInt, 1<<30 + 1, true},
		{"without an end", []api.Leg{{Dir: 1}}, []api.Leg{{Dir: 1}, {Tick: 5, Pos: 5, Dir: 1}}, math.MaxInt, 0, false},
	} {
		if got, ok := diff.Ways(c.a, c.b, c.horizon); got != c.want || ok != c.ok {
			t.Errorf("%s: %d, %v; want %d", c.name, got, ok, c.want)
		}
		if got, ok := diff.Ways(c.b, c.a, c.horizon); got != c.want || ok != c.ok {
			t.Errorf("%s, the other way round: %d, %v; want %d", c.name, got, ok, c.want)
		}
	}
}

// P38.2: of drawn ways, tick by tick.
func TestDrawn(t *testing.T) {
	for seed := range uint64(10000) {
		r := rand.New(rand.NewPCG(seed, 38))
		a := sample.Legs(r.IntN, r.IntN(8), r.IntN(9)-6, 2)
		b := slices.Clone(a)
		if len(b) > 0 && r.IntN(3) > 0 {
			i := r.IntN(len(b))
			b = append(b[:i], sample.Legs(r.IntN, r.IntN(3), b[i].Tick, 2)...)
		}
		horizon := r.IntN(40) - 1
		want, part := 0, false
		for tick := 0; tick < horizon && !part; tick++ {
			posA, doorA, okA := track.At(a, tick)
			posB, doorB, okB := track.At(b, tick)
			if posA != posB || doorA != doorB || okA != okB {
				want, part = tick, true
			}
		}
		if got, ok := diff.Ways(a, b, horizon); got != want || ok != part {
			t.Fatalf("Ways(%v, %v, %d): %d, %v; want %d", a, b, horizon, got, ok, want)
		}
	}
}

// P38.2
func TestChanged(t *testing.T) {
	for _, c := range []struct {
		name string
		a, b []api.Trip
		want []int
	}{
		{"none", nil, nil, nil},
		{"the same", row, row, nil},
		{"another row of them", row, []api.Trip{row[2], row[0], row[1]}, nil},
		{"Ids that only one has", []api.Trip{{Id: 1}, {Id: 2}}, []api.Trip{{Id: 3}, {Id: 2}}, nil},
		{"in the order of the second row", []api.Trip{{Id: 1}, {Id: 2}, {Id: 3}, {Id: -4}}, []api.Trip{{Id: 3, Car: 1}, {Id: -4, To: 1}, {Id: 2}, {Id: 1, Board: 1}}, []int{3, -4, 1}},
		{"of several in the first row the last one", []api.Trip{{Id: 1, Car: 1}, {Id: 1, Car: 2}}, []api.Trip{{Id: 1, Car: 1}}, []int{1}},
		{"of several in the first row the last one", []api.Trip{{Id: 1, Car: 1}, {Id: 1, Car: 2}}, []api.Trip{{Id: 1, Car: 2}}, nil},
	} {
		if got := diff.Changed(c.a, c.b); !slices.Equal(got, c.want) {
			t.Errorf("%s: %v; want %v", c.name, got, c.want)
		}
	}
	for _, x := range others(row[1])[1:] {
		if got := diff.Changed(row, with(row, 1, x)); !slices.Equal(got, []int{1}) {
			t.Errorf("%v for %v: %v", x, row[1], got)
		}
	}
}

// P1: at any argument all of it ends, and nothing that is handed in is changed.
func TestEnds(t *testing.T) {
	wild := []api.Leg{{Tick: math.MaxInt, Door: true}, {Tick: math.MinInt, Dir: math.MinInt}, {Tick: -1}, {Tick: math.MinInt, Pos: math.MinInt, Dir: math.MaxInt}}
	before := slices.Clone(wild)
	for _, horizon := range []int{math.MinInt, -1, 0, 1, math.MaxInt} {
		for i := range wild {
			diff.Ways(wild[i:], wild, horizon)
			diff.Ways(wild[:i], legs, horizon)
		}
	}
	if !slices.Equal(wild, before) {
		t.Error("Ways changed its legs")
	}
}
