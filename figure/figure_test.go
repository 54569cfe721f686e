package figure_test

import (
	"math"
	"math/rand/v2"
	"slices"
	"testing"

	"hoistway/api"
	"hoistway/figure"
	"hoistway/frac"
	"hoistway/sample"
	"hoistway/track"
	"hoistway/trip"
)

// done: so many trips that are done, one that rides, one that waits.
func done(n int) []api.Trip {
	l := []api.Trip{{Board: 3, Alight: -1}, {Car: -1, Board: -1, Alight: -1}}
	for range n {
		l = append(l, api.Trip{Board: 1, Alight: 2})
	}
	return l
}

// P35.1
func TestHandling(t *testing.T) {
	for _, c := range []struct{ done, horizon, want int }{
		{2, 100, 6}, {0, 100, 0}, {1, 300, 1}, {1, 301, 0}, {7, 300, 7}, {1, 1, 300}, {5, 7, 214}, {100, 1 << 20, 0}, {100, 29999, 1}, {100, 30001, 0},
		{2, 0, 0}, {2, -1, 0}, {2, math.MinInt, 0}, {2, math.MaxInt, 0},
	} {
		if got := figure.Handling(done(c.done), c.horizon); got != c.want {
			t.Errorf("Handling of %d in %d: %d; want %d", c.done, c.horizon, got, c.want)
		}
	}
	if figure.Base != 300 || figure.Handling(nil, 10) != 0 {
		t.Error("Base, or Handling of none")
	}
}

// P35.1
func TestLoad(t *testing.T) {
	l := []api.Trip{{Board: 2, Alight: 9}, {Board: 5, Alight: -1}, {Board: 12, Alight: 13}, {Board: -1, Alight: -1}}
	for _, c := range []struct {
		trips         []api.Trip
		cars, horizon int
		want          api.Frac
		ok            bool
	}{
		{l, 1, 10, api.Frac{Whole: 1, Rest: 2, By: 10}, true},
		{l, 2, 10, api.Frac{Rest: 12, By: 20}, true},
		{l, 2, 2, api.Frac{By: 4}, true},
		{l, 1, 20, api.Frac{Whole: 1, Rest: 3, By: 20}, true},
		{nil, 3, 4, api.Frac{By: 12}, true},
		{l, 0, 10, api.Frac{}, false},
		{l, -1, 10, api.Frac{}, false},
		{l, 1, 0, api.Frac{}, false},
		{l, 1, -1, api.Frac{}, false},
		{l, -1, -1, api.Frac{}, false},
		{nil, 1 << 20, 1 << 30, api.Frac{By: 1 << 50}, true},
	} {
		if got, ok := figure.Load(c.trips, c.cars, c.horizon); got != c.want || ok != c.ok {
			t.Errorf("Load of %d, %d: %v, %v; want %v", c.cars, c.horizon, got, ok, c.want)
		}
	}
}

// ways are three cars: one opens at 0 twice, and at 4; one at 0 from its beginning; one never.
var ways = [][]api.Leg{
	{{Tick: 0}, {Tick: 3, Door: true}, {Tick: 5, Pos: 1, Dir: 1}, {Tick: 9, Pos: 4, Door: true}, {Tick: 12, Pos: 3, Dir: -1}, {Tick: 15, Door: true}},
	{{Tick: 0, Door: true}, {Tick: 4, Pos: 1, Dir: 1}},
	{{Tick: 0, Pos: 9, Dir: -1}},
}

// P35.2
func TestOpenings(t *testing.T) {
	for _, c := range []struct {
		pos, horizon int
		want         [][]int
	}{
		{0, 20, [][]int{{3, 15}, {0}, nil}}, {0, 15, [][]int{{3}, {0}, nil}}, {0, 16, [][]int{{3, 15}, {0}, nil}}, {4, 20, [][]int{{9}, nil, nil}}, {4, 9, [][]int{nil, nil, nil}}, {1, 20, [][]int{nil, nil, nil}}, {0, 0, [][]int{nil, nil, nil}}, {0, -1, [][]int{nil, nil, nil}},
	} {
		if got := figure.Openings(ways, c.pos, c.horizon); !slices.EqualFunc(got, c.want, slices.Equal[[]int]) {
			t.Errorf("Openings at %d ahead of %d: %v; want %v", c.pos, c.horizon, got, c.want)
		}
	}
	if got := figure.Openings(nil, 0, 9); len(got) != 0 {
		t.Error(got)
	}
}

// P35.2
func TestInterval(t *testing.T) {
	for _, c := range []struct {
		horizon int
		want    api.Frac
		ok      bool
	}{
		{20, api.Frac{Whole: 7, Rest: 1, By: 2}, true}, {15, api.Frac{Whole: 3, By: 1}, true}, {3, api.Frac{}, false}, {0, api.Frac{}, false}, {-1, api.Frac{}, false},
	} {
		if got, ok := figure.Interval(ways, c.horizon); got != c.want || ok != c.ok {
			t.Errorf("Interval ahead of %d: %v, %v; want %v", c.horizon, got, ok, c.want)
		}
	}
	// Two that open at one tick, and one of another floor that counts for nothing.
	both := [][]api.Leg{{{Tick: 4, Door: true}}, {{Tick: 4, Door: true}}, {{Tick: 9, Pos: 1, Door: true}}}
	if got, ok := figure.Interval(both, 20); got != (api.Frac{By: 1}) || !ok {
		t.Error(got, ok)
	}
	if got, ok := figure.Interval(nil, 20); got != (api.Frac{}) || ok {
		t.Error(got, ok)
	}
}

// P35.2
func TestBusyFar(t *testing.T) {
	for _, c := range []struct{ horizon, busy, far int }{
		{-1, 0, 0}, {0, 0, 0}, {1, 1, 0}, {5, 6, 5}, {6, 6, 8}, {10, 7, 19}, {20, 14, 4 + 4 + 16 + 19},
	} {
		if got := figure.Busy(ways, c.horizon); got != c.busy {
			t.Errorf("Busy ahead of %d: %d; want %d", c.horizon, got, c.busy)
		}
		if got := figure.Far(ways, c.horizon); got != c.far {
			t.Errorf("Far ahead of %d: %d; want %d", c.horizon, got, c.far)
		}
	}
	if figure.Busy(nil, 9) != 0 || figure.Far(nil, 9) != 0 {
		t.Error("of no car")
	}
}

// told is what P35.2 tells of ways, tick by tick.
type told struct {
	openings  [][]int
	busy, far int
}

func tell(legs [][]api.Leg, pos, horizon int) told {
	x := told{openings: make([][]int, len(legs))}
	for i, l := range legs {
		before, shut, was := 0, true, false
		for tick := -9; tick < horizon; tick++ {
			at, door, ok := track.At(l, tick)
			if door {
				x.busy++
			}
			if door && shut && at == pos {
				x.openings[i] = append(x.openings[i], tick)
			}
			if was {
				x.far += max(at-before, before-at)
			}
			before, shut, was = at, !door, ok
		}
	}
	return x
}

// P35.1, P35.2: of drawn ways and trips, tick by tick.
func TestDrawn(t *testing.T) {
	for seed := range uint64(2000) {
		r := rand.New(rand.NewPCG(seed, 35))
		var legs [][]api.Leg
		for range r.IntN(4) {
			legs = append(legs, sample.Legs(r.IntN, r.IntN(9), r.IntN(12)-9, 3))
		}
		pos, horizon := r.IntN(3), r.IntN(40)-1
		want := tell(legs, pos, horizon)
		if got := figure.Openings(legs, pos, horizon); !slices.EqualFunc(got, want.openings, slices.Equal[[]int]) {
			t.Fatalf("Openings of %v at %d ahead of %d: %v; want %v", legs, pos, horizon, got, want.openings)
		}
		if got := figure.Busy(legs, horizon); got != want.busy {
			t.Fatalf("Busy of %v ahead of %d: %d; want %d", legs, horizon, got, want.busy)
		}
		if got := figure.Far(legs, horizon); got != want.far {
			t.Fatalf("Far of %v ahead of %d: %d; want %d", legs, horizon, got, want.far)
		}
		var mean api.Frac
		all := slices.Concat(tell(legs, 0, horizon).openings...)
		slices.Sort(all)
		if len(all) >= 2 {
			mean, _ = frac.Of(all[len(all)-1]-all[0], len(all)-1)
		}
		if got, ok := figure.Interval(legs, horizon); got != mean || ok != (len(all) >= 2) {
			t.Fatalf("Interval of %v ahead of %d: %v, %v; want %v", legs, horizon, got, ok, mean)
		}
		trips := sample.Trips(r.IntN, r.IntN(20), 3, 2, 30)
		load := 0
		for tick := range horizon {
			for car := range 2 {
				load += len(trip.Load(trips, car, tick))
			}
		}
		if got, ok := figure.Load(trips, 2, horizon); ok != (horizon > 0) || got.Whole*got.By+got.Rest != load || ok && got.By != 2*horizon {
			t.Fatalf("Load of %v ahead of %d: %v, %v; want %d", trips, horizon, got, ok, load)
		}
	}
}

// P1: at any argument all of it ends.
func TestEnds(t *testing.T) {
	wild := [][]api.Leg{{{Tick: math.MaxInt, Door: true}, {Tick: math.MinInt, Door: true}}, nil, {{Tick: math.MinInt, Pos: math.MinInt, Door: true, Dir: math.MinInt}, {}}}
	trips := []api.Trip{{Board: math.MaxInt}, {Alight: math.MinInt}, {Board: math.MinInt, Alight: math.MaxInt}}
	for _, n := range []int{math.MinInt, -1, 0, 1, math.MaxInt} {
		figure.Openings(wild, n, n)
		figure.Interval(wild, n)
		figure.Busy(wild, n)
		figure.Far(wild, n)
		figure.Handling(trips, n)
		figure.Load(trips, n, n)
		figure.Load(trips, 3, n)
	}
}
