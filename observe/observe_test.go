package observe_test

import (
	"maps"
	"math"
	"math/rand/v2"
	"slices"
	"testing"

	"hoistway/api"
	"hoistway/observe"
)

func trip(from, to, car, board, alight int) api.Trip {
	return api.Trip{From: from, To: to, Car: car, Board: board, Alight: alight}
}

func some() []api.Trip {
	return []api.Trip{
		trip(0, 3, 1, 5, 9), trip(0, 3, 0, 5, -1), trip(3, 0, 1, 0, 0), trip(2, 3, -1, -1, -1), trip(0, 2, 1, 7, 8),
	}
}

// P58.1
func TestGrid(t *testing.T) {
	g := observe.Grid(some())
	want := []api.Weight{{Cell: api.Cell{From: 0, To: 2}, N: 1}, {Cell: api.Cell{From: 0, To: 3}, N: 2}, {Cell: api.Cell{From: 2, To: 3}, N: 1}, {Cell: api.Cell{From: 3, To: 0}, N: 1}}
	if got := g.All(); !slices.Equal(got, want) {
		t.Error(got)
	}
	if g := observe.Grid(nil); g == nil || g.Len() != 0 {
		t.Error(g)
	}
	g = observe.Grid([]api.Trip{trip(math.MinInt, math.MaxInt, 0, 0, 0), trip(5, 5, 0, 0, 0), trip(5, 5, 1, -1, -1)})
	if g.Len() != 2 || g.Get(api.Cell{From: 5, To: 5}) != 2 || g.Get(api.Cell{From: math.MinInt, To: math.MaxInt}) != 1 {
		t.Error(g.All())
	}
}

// P58.1
func TestStops(t *testing.T) {
	got := observe.Stops(some())
	want := map[observe.Stop]int{{Car: 1, Floor: 0}: 3, {Car: 1, Floor: 3}: 2, {Car: 0, Floor: 0}: 1, {Car: 1, Floor: 2}: 1}
	if !maps.Equal(got, want) {
		t.Errorf("%v; want %v", got, want)
	}
	if got := observe.Stops(nil); len(got) != 0 {
		t.Error(got)
	}
	// Who is out, but was never in, got out alone; whoever's car it is.
	got = observe.Stops([]api.Trip{trip(4, 5, -1, -1, 0), trip(4, 5, -1, math.MinInt, math.MaxInt), trip(9, 9, 2, 0, 1)})
	if !maps.Equal(got, map[observe.Stop]int{{Car: -1, Floor: 5}: 2, {Car: 2, Floor: 9}: 2}) {
		t.Error(got)
	}
	for at, n := range want {
		if got := observe.At(some(), at.Car, at.Floor); got != n {
			t.Errorf("At(%v): %d; want %d", at, got, n)
		}
	}
	for _, at := range []observe.Stop{{Car: 0, Floor: 3}, {Car: -1, Floor: 2}, {Car: -1, Floor: 3}, {Car: 3, Floor: 1}, {Car: math.MaxInt, Floor: math.MinInt}} {
		if got := observe.At(some(), at.Car, at.Floor); got != 0 {
			t.Errorf("At(%v): %d", at, got)
		}
	}
}

// P58.1
func TestBusiest(t *testing.T) {
	for _, c := range []struct {
		l     []api.Trip
		floor int
		ok    bool
	}{
		{some(), 0, true}, {nil, 0, false}, {[]api.Trip{trip(3, 4, -1, -1, -1)}, 0, false},
		// Of several the least one, whatever cars these are; a floor's stops of all cars together.
		{[]api.Trip{trip(7, 5, 0, 1, 2)}, 5, true}, {[]api.Trip{trip(5, 7, 0, 1, 2)}, 5, true}, {[]api.Trip{trip(5, 7, 0, 1, -1)}, 5, true}, {[]api.Trip{trip(5, 7, 0, -1, 1)}, 7, true},
		{[]api.Trip{trip(9, 2, 0, 1, 2), trip(9, 4, 1, 1, 2), trip(3, 2, 0, 0, 0)}, 2, true}, {[]api.Trip{trip(9, 2, 0, 1, 2), trip(9, 4, 1, 1, 2), trip(9, 2, 2, 0, 0)}, 9, true},
		{[]api.Trip{trip(-4, 2, 0, 1, 2)}, -4, true}, {[]api.Trip{trip(1, 2, 0, 1, 2), trip(0, 2, 0, -1, 2)}, 2, true},
	} {
		for range 10 {
			if floor, ok := observe.Busiest(c.l); floor != c.floor || ok != c.ok {
				t.Errorf("Busiest(%v): %d, %v; want %d", c.l, floor, ok, c.floor)
			}
		}
	}
}

// many: so many trips from the lowest floor, others to it, and others.
func many(from, to, other int) []api.Trip {
	l := slices.Repeat([]api.Trip{trip(0, 3, 0, 0, 0)}, from)
	l = append(l, slices.Repeat([]api.Trip{trip(3, 0, 0, 0, 0)}, to)...)
	return append(l, slices.Repeat([]api.Trip{trip(1, 2, -1, -1, -1)}, other)...)
}

// P58.2
func TestKind(t *testing.T) {
	for _, c := range []struct{ from, to, other, a, b, c int }{
		{3, 0, 1, 750, 0, 250}, {0, 0, 0, 0, 0, 0}, {1, 1, 1, 333, 333, 333}, {2, 0, 1, 666, 0, 333}, {0, 1, 0, 0, 1000, 0}, {0, 0, 5, 0, 0, 1000}, {1, 0, 0, 1000, 0, 0}, {1, 1, 1998, 0, 0, 999}, {2, 2, 1996, 1, 1, 998}, {0, 1999, 1, 0, 999, 0},
	} {
		if x, y, z := observe.Kind(many(c.from, c.to, c.other)); x != c.a || y != c.b || z != c.c {
			t.Errorf("Kind(%v): %d, %d, %d", c, x, y, z)
		}
	}
	// From 0 counts ahead of to 0.
	if x, y, z := observe.Kind([]api.Trip{trip(0, 0, 0, 0, 0), trip(5, 0, 0, 0, 0)}); x != 500 || y != 500 || z != 0 {
		t.Error(x, y, z)
	}
}

// P58.2
func TestLike(t *testing.T) {
	if got := observe.Like(nil); got != 0 {
		t.Error(got)
	}
	for n := 1; n <= 24; n++ {
		for from := 0; from <= n; from++ {
			for to := 0; from+to <= n; to++ {
				share := func(k int) float64 { return float64(k) / float64(n) }
				want := api.Lunch
				switch {
				case share(from+to) < 0.5:
					want = api.Interfloor
				case share(from) >= 0.75:
					want = api.UpPeak
				case share(to) >= 0.75:
					want = api.DownPeak
				}
				if got := observe.Like(many(from, to, n-from-to)); got != want {
					t.Errorf("Like of %d, %d of %d: %d; want %d", from, to, n, got, want)
				}
			}
		}
	}
	if got := observe.Like(slices.Repeat([]api.Trip{trip(0, 0, 0, 0, 0)}, 4)); got != api.UpPeak {
		t.Error(got)
	}
}

// P58.1: by the document's words, of trips of any kind.
func TestMixed(t *testing.T) {
	for seed := range uint64(2000) {
		r := rand.New(rand.NewPCG(seed, 58))
		var l []api.Trip
		for range r.IntN(30) {
			l = append(l, trip(r.IntN(5)-1, r.IntN(5)-1, r.IntN(3)-1, r.IntN(3)-1, r.IntN(3)-1))
		}
		want, floors := map[observe.Stop]int{}, make([]int, 5)
		for _, x := range l {
			if x.Board >= 0 {
				want[observe.Stop{Car: x.Car, Floor: x.From}]++
				floors[x.From+1]++
			}
			if x.Alight >= 0 {
				want[observe.Stop{Car: x.Car, Floor: x.To}]++
				floors[x.To+1]++
			}
		}
		if got := observe.Stops(l); !maps.Equal(got, want) {
			t.Fatalf("Stops(%v): %v; want %v", l, got, want)
		}
		most := slices.Max(floors)
		busiest := slices.Index(floors, most) - 1
		if most == 0 {
			busiest = 0
		}
		if got, ok := observe.Busiest(l); got != busiest || ok != (most > 0) {
			t.Fatalf("Busiest(%v): %d, %v; want %d", l, got, ok, busiest)
		}
	}
}

// Rule 5: what is answered is new.
func TestNew(t *testing.T) {
	l := some()
	clear(observe.Stops(l))
	observe.Grid(l).Set(api.Cell{From: 0, To: 3}, 70)
	if n := observe.At(l, 1, 0); n != 3 {
		t.Error(n)
	}
	if n := observe.Grid(l).Get(api.Cell{From: 0, To: 3}); n != 2 || !slices.Equal(l, some()) {
		t.Error(n)
	}
}
