package meet_test

import (
	"cmp"
	"maps"
	"math"
	"math/rand/v2"
	"slices"
	"testing"

	"hoistway/api"
	"hoistway/meet"
	"hoistway/sample"
	"hoistway/span"
	"hoistway/track"
)

// at: a car that stands at a place.
func at(pos int) []api.Leg { return []api.Leg{{Pos: pos}} }

var (
	rising  = []api.Leg{{Pos: 0, Dir: 1}}
	falling = []api.Leg{{Pos: 8, Dir: -1}}
	// crossing passes rising between two ticks.
	crossing = []api.Leg{{Pos: 7, Dir: -1}}
)

// P65.1
func TestAt(t *testing.T) {
	for _, c := range []struct {
		name    string
		a, b    []api.Leg
		horizon int
		want    []api.Span
	}{
		{"no cars", nil, nil, 9, nil},
		{"one car", at(1), nil, 9, nil},
		{"at one place", at(1), at(1), 9, []api.Span{{From: 0, To: 9}}},
		{"at one place for a tick", at(1), at(1), 1, []api.Span{{From: 0, To: 1}}},
		{"no tick", at(1), at(1), 0, nil},
		{"fewer than none", at(1), at(1), -1, nil},
		{"the least there is", at(1), at(1), math.MinInt, nil},
		{"at unlike places", at(1), at(2), 9, nil},
		{"that pass each other at a place", rising, falling, 9, []api.Span{{From: 4, To: 5}}},
		{"that pass each other, ahead of that", rising, falling, 4, nil},
		{"that pass each other between two", rising, crossing, 9, nil},
		{"one behind the other", rising, []api.Leg{{}, {Tick: 1, Pos: 1}, {Tick: 3, Pos: 3, Dir: 1}, {Tick: 6}}, 9, []api.Span{{From: 0, To: 2}, {From: 3, To: 6}}},
	} {
		if got := meet.At(c.a, c.b, c.horizon); !slices.Equal(got, c.want) {
			t.Errorf("%s: %v; want %v", c.name, got, c.want)
		}
		if got := meet.At(c.b, c.a, c.horizon); !slices.Equal(got, c.want) {
			t.Errorf("%s, the other way round: %v; want %v", c.name, got, c.want)
		}
	}
}

// P65.1
func TestOpen(t *testing.T) {
	first := []api.Leg{{}, {Tick: 2, Door: true}, {Tick: 7}, {Tick: 9, Door: true}}
	second := []api.Leg{{Door: true}, {Tick: 4}, {Tick: 5, Door: true}, {Tick: 11}}
	other := []api.Leg{{Pos: 1, Door: true}}
	for _, c := range []struct {
		name    string
		a, b    []api.Leg
		horizon int
		want    []api.Span
	}{
		{"no cars", nil, nil, 9, nil},
		{"with closed doors", at(1), at(1), 9, nil},
		{"one of them open", first, at(0), 20, nil},
		{"both of them", first, second, 20, []api.Span{{From: 2, To: 4}, {From: 5, To: 7}, {From: 9, To: 11}}},
		{"both of them, ahead of a horizon", first, second, 6, []api.Span{{From: 2, To: 4}, {From: 5, To: 6}}},
		{"both of them, no tick", first, second, 0, nil},
		{"elsewhere", first, other, 20, nil},
		{"itself", other, other, 20, []api.Span{{From: 0, To: 20}}},
	} {
		if got := meet.Open(c.a, c.b, c.horizon); !slices.Equal(got, c.want) {
			t.Errorf("%s: %v; want %v", c.name, got, c.want)
		}
	}
}

// P65.1
func TestPassed(t *testing.T) {
	for _, c := range []struct {
		name    string
		a, b    []api.Leg
		horizon int
		want    int
	}{
		{"no cars", nil, nil, 9, 0},
		{"one car", rising, nil, 9, 0},
		{"that stand", at(1), at(2), 9, 0},
		{"at one place", at(1), at(1), 9, 0},
		{"at a place", rising, falling, 9, 1},
		{"at a place, and at no tick more", rising, falling, 5, 0},
		{"at a place, and at one tick more", rising, falling, 6, 1},
		{"between two", rising, crossing, 9, 1},
		{"between two, ahead of that", rising, crossing, 4, 0},
		{"from one place on", rising, at(0), 9, 0},
		{"at one place for long, and on", at(3), []api.Leg{{Pos: 2, Dir: 1}, {Tick: 1, Pos: 3}, {Tick: 6, Pos: 4}}, 9, 1},
		{"at one place for long, and back", at(3), []api.Leg{{Pos: 2, Dir: 1}, {Tick: 1, Pos: 3}, {Tick: 6, Pos: 2}}, 9, 0},
		{"there and back", at(3), []api.Leg{{Pos: 0, Dir: 1}, {Tick: 6, Pos: 5, Dir: -1}}, 20, 2},
		{"no tick", rising, falling, 0, 0},
		{"fewer than none", rising, falling, -1, 0},
	} {
		if got := meet.Passed(c.a, c.b, c.horizon); got != c.want {
			t.Errorf("%s: %d; want %d", c.name, got, c.want)
		}
		if got := meet.Passed(c.b, c.a, c.horizon); got != c.want {
			t.Errorf("%s, the other way round: %d; want %d", c.name, got, c.want)
		}
	}
}

// P65.2
func TestAll(t *testing.T) {
	for _, c := range []struct {
		name    string
		legs    [][]api.Leg
		horizon int
		want    map[meet.Pair]int
		most    meet.Pair
		ok      bool
	}{
		{"no cars", nil, 9, nil, meet.Pair{}, false},
		{"one car", [][]api.Leg{at(1)}, 9, nil, meet.Pair{}, false},
		{"that never meet", [][]api.Leg{at(1), at(2), nil}, 9, nil, meet.Pair{}, false},
		{"no tick", [][]api.Leg{at(1), at(1)}, 0, nil, meet.Pair{}, false},
		{"two", [][]api.Leg{at(1), at(1)}, 9, map[meet.Pair]int{{A: 0, B: 1}: 9}, meet.Pair{A: 0, B: 1}, true},
		{"two, and one", [][]api.Leg{rising, at(2), rising}, 9, map[meet.Pair]int{{A: 0, B: 1}: 1, {A: 0, B: 2}: 9, {A: 1, B: 2}: 1}, meet.Pair{A: 0, B: 2}, true},
		{"of several that of the lesser B", [][]api.Leg{at(1), at(2), at(2), at(1)}, 9, map[meet.Pair]int{{A: 1, B: 2}: 9, {A: 0, B: 3}: 9}, meet.Pair{A: 1, B: 2}, true},
		{"of several of one B that of the lesser A", [][]api.Leg{rising, falling, at(4)}, 9, map[meet.Pair]int{{A: 0, B: 1}: 1, {A: 0, B: 2}: 1, {A: 1, B: 2}: 1}, meet.Pair{A: 0, B: 1}, true},
		{"of several of one B that of the lesser A", [][]api.Leg{at(4), rising, {{Pos: 1}, {Tick: 4, Pos: 4}, {Tick: 6, Pos: 7}}}, 7, map[meet.Pair]int{{A: 0, B: 1}: 1, {A: 0, B: 2}: 2, {A: 1, B: 2}: 2}, meet.Pair{A: 0, B: 2}, true},
	} {
		if got := meet.All(c.legs, c.horizon); !maps.Equal(got, c.want) {
			t.Errorf("%s: %v; want %v", c.name, got, c.want)
		}
		if got, ok := meet.Most(c.legs, c.horizon); got != c.most || ok != c.ok {
			t.Errorf("%s: %v, %v; want %v", c.name, got, ok, c.most)
		}
	}
}

// told is what P65.1 tells of two ways, tick by tick.
type told struct {
	at, open []api.Span
	passed   int
}

func tell(a, b []api.Leg, horizon int) told {
	var x told
	below := 0
	for tick := range horizon {
		posA, doorA, okA := track.At(a, tick)
		posB, doorB, okB := track.At(b, tick)
		if !okA || !okB {
			continue
		}
		now := api.Span{From: tick, To: tick + 1}
		way := cmp.Compare(posA, posB)
		switch {
		case way == 0 && doorA && doorB:
			x.open = append(x.open, now)
			fallthrough
		case way == 0:
			x.at = append(x.at, now)
			continue
		case below != 0 && way != below:
			x.passed++
		}
		below = way
	}
	x.at, x.open = span.Merge(x.at...), span.Merge(x.open...)
	return x
}

// P65.1, P65.2: of drawn ways, tick by tick.
func TestDrawn(t *testing.T) {
	for seed := range uint64(3000) {
		r := rand.New(rand.NewPCG(seed, 65))
		var legs [][]api.Leg
		for range 4 {
			legs = append(legs, sample.Legs(r.IntN, r.IntN(9), 0, 4))
		}
		horizon := r.IntN(40) - 1
		all := map[meet.Pair]int{}
		for b := range legs {
			for a := range b {
				want := tell(legs[a], legs[b], horizon)
				if got := meet.At(legs[a], legs[b], horizon); !slices.Equal(got, want.at) {
					t.Fatalf("At(%v, %v, %d): %v; want %v", legs[a], legs[b], horizon, got, want.at)
				}
				if got := meet.Open(legs[a], legs[b], horizon); !slices.Equal(got, want.open) {
					t.Fatalf("Open(%v, %v, %d): %v; want %v", legs[a], legs[b], horizon, got, want.open)
				}
				if got := meet.Passed(legs[a], legs[b], horizon); got != want.passed {
					t.Fatalf("Passed(%v, %v, %d): %d; want %d", legs[a], legs[b], horizon, got, want.passed)
				}
				if n := int(span.Len(want.at)); n > 0 {
					all[meet.Pair{A: a, B: b}] = n
				}
			}
		}
		if got := meet.All(legs, horizon); !maps.Equal(got, all) {
			t.Fatalf("All(%v, %d): %v; want %v", legs, horizon, got, all)
		}
		order := slices.SortedFunc(maps.Keys(all), func(p, q meet.Pair) int {
			return cmp.Or(cmp.Compare(all[q], all[p]), cmp.Compare(p.B, q.B), cmp.Compare(p.A, q.A))
		})
		order = append(order, meet.Pair{})
		if got, ok := meet.Most(legs, horizon); got != order[0] || ok != (len(all) > 0) {
			t.Fatalf("Most(%v, %d): %v, %v; want %v", legs, horizon, got, ok, order[0])
		}
	}
}

// P65.1: at the greatest horizon.
func TestLong(t *testing.T) {
	if got := meet.At(at(1), at(1), api.MaxHorizon); !slices.Equal(got, []api.Span{{From: 0, To: api.MaxHorizon}}) {
		t.Error(got)
	}
}

// P1: at any argument all of it ends.
func TestEnds(t *testing.T) {
	wild := [][]api.Leg{{{Tick: 0}, {Tick: math.MinInt}, {Tick: math.MaxInt, Door: true}}, {{Tick: math.MinInt, Pos: math.MinInt, Dir: math.MinInt}, {}}, {{Tick: 5}}, {{Dir: math.MaxInt}}}
	for _, horizon := range []int{math.MinInt, -1, 0, 1, math.MaxInt} {
		for _, a := range wild {
			for _, b := range wild {
				meet.At(a, b, horizon)
				meet.Open(a, b, horizon)
				meet.Passed(a, b, horizon)
			}
		}
		meet.All(wild, horizon)
		meet.Most(wild, horizon)
	}
}
