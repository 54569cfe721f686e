package energy_test

import (
	"math"
	"math/rand/v2"
	"slices"
	"testing"

	"hoistway/api"
	"hoistway/energy"
	"hoistway/sample"
	"hoistway/track"
	"hoistway/trip"
)

// P64.1
func TestRight(t *testing.T) {
	const most = 1 << 20
	for _, c := range []struct {
		rates energy.Rates
		want  bool
	}{
		{energy.Rates{}, true}, {energy.Rates{Up: most, Down: most, Rider: most, Open: most}, true}, {energy.Rates{Up: 1, Down: 2, Rider: 3, Open: 4}, true},
		{energy.Rates{Up: most + 1}, false}, {energy.Rates{Down: most + 1}, false}, {energy.Rates{Rider: most + 1}, false}, {energy.Rates{Open: most + 1}, false},
		{energy.Rates{Up: -1}, false}, {energy.Rates{Down: -1}, false}, {energy.Rates{Rider: -1}, false}, {energy.Rates{Open: -1}, false},
		{energy.Rates{Up: math.MinInt}, false}, {energy.Rates{Open: math.MaxInt}, false},
	} {
		if got := energy.Right(c.rates); got != c.want {
			t.Errorf("Right(%v): %v", c.rates, got)
		}
	}
}

// P64.1
func TestStep(t *testing.T) {
	const most = 1 << 20
	r := energy.Rates{Up: 7, Down: 5, Rider: 2, Open: 1000}
	for _, c := range []struct {
		rates             energy.Rates
		dir, riders, want int
	}{
		{r, 1, 0, 7}, {r, 1, 3, 13}, {r, -1, 0, 5}, {r, -1, 1, 3}, {r, -1, 2, 1}, {r, -1, 3, 0}, {r, -1, 1000, 0}, {r, 0, 3, 0},
		{r, math.MaxInt, 1, 9}, {r, math.MinInt, 1, 3}, {r, 2, most, 7 + 2*most}, {energy.Rates{}, 1, 9, 0}, {energy.Rates{}, -1, 9, 0},
		{energy.Rates{Up: most, Rider: most}, 1, most, most + most*most}, {energy.Rates{Down: most, Rider: 1}, -1, most, 0}, {energy.Rates{Down: most, Rider: 1}, -1, most - 1, 1},
	} {
		if got := energy.Step(c.rates, c.dir, c.riders); got != c.want {
			t.Errorf("Step(%v, %d, %d): %d; want %d", c.rates, c.dir, c.riders, got, c.want)
		}
	}
}

// rates have each cost in digits of its own, as long as there are few steps.
var rates = energy.Rates{Up: 1000000, Down: 10000, Rider: 100, Open: 1}

// up: a car that opens at floor 0, goes up three places, opens, and comes down one.
var up = []api.Leg{{Tick: 0, Door: true}, {Tick: 3}, {Tick: 5, Pos: 1, Dir: 1}, {Tick: 8, Pos: 3, Door: true}, {Tick: 11, Pos: 3}, {Tick: 12, Pos: 2}}

// P64.2
func TestCar(t *testing.T) {
	rider := []api.Trip{{Id: 0, Board: 2, Alight: 9}}
	for _, c := range []struct {
		name    string
		trips   []api.Trip
		horizon int
		want    int
	}{
		{"nobody", nil, 20, 3010002},
		{"no tick", nil, 0, 0},
		{"fewer than none", rider, -1, 0},
		{"the first tick", rider, 1, 1},
		{"ahead of the way", rider, 5, 1},
		{"the way's beginning", rider, 6, 1000101},
		{"ahead of the second opening", rider, 8, 3000301},
		{"the second opening", rider, 9, 3000302},
		{"ahead of the way down", rider, 12, 3000302},
		{"one who rides up", rider, 20, 3010302},
		{"one who rides on", []api.Trip{{Board: 2, Alight: -1}}, 20, 3010202},
		{"one of another car", []api.Trip{{Car: 1, Board: 2, Alight: 9}, {Car: -1, Board: 2, Alight: 9}}, 20, 3010002},
		{"one who waits", []api.Trip{{Board: -1, Alight: -1}}, 20, 3010002},
		{"one in and out at tick 0", []api.Trip{{Board: 0, Alight: 0}}, 20, 3010002},
		{"one in and out at one tick", []api.Trip{{Board: 5, Alight: 5}}, 20, 3010002},
		{"in with the car's first place counts not for it", []api.Trip{{Board: 5, Alight: 9}}, 20, 3010202},
		{"in ahead of it does", []api.Trip{{Board: 4, Alight: 9}}, 20, 3010302},
		{"out with the car's last place counts for it", []api.Trip{{Board: 4, Alight: 7}}, 20, 3010302},
		{"out ahead of it doesn't", []api.Trip{{Board: 4, Alight: 6}}, 20, 3010202},
		{"in behind the horizon", []api.Trip{{Board: 30, Alight: 31}}, 20, 3010002},
		{"from tick 0 on", []api.Trip{{Board: 0, Alight: -1}}, 20, 3010202},
	} {
		if got := energy.Car(rates, api.Log{Trips: c.trips, Legs: [][]api.Leg{up}}, 0, c.horizon); got != c.want {
			t.Errorf("%s: %d; want %d", c.name, got, c.want)
		}
	}
}

// P64.2: of cars that there aren't nothing, and of all the sum.
func TestCars(t *testing.T) {
	l := api.Log{Trips: []api.Trip{{Car: 1, Board: 0, Alight: -1}, {Car: -1, Board: 0, Alight: 9}, {Car: 3, Board: 0, Alight: 9}}, Legs: [][]api.Leg{up, {{Dir: 1}}, nil}}
	want := []int{3010002, 19001900, 0}
	for car, n := range want {
		if got := energy.Car(rates, l, car, 20); got != n {
			t.Errorf("Car %d: %d; want %d", car, got, n)
		}
	}
	for _, car := range []int{math.MinInt, -1, 3, math.MaxInt} {
		if got := energy.Car(rates, l, car, 20); got != 0 {
			t.Errorf("Car %d: %d", car, got)
		}
	}
	if got := energy.Each(rates, l, 20); !slices.Equal(got, want) {
		t.Errorf("Each: %v; want %v", got, want)
	}
	if got := energy.All(rates, l, 20); got != 3010002+19001900 {
		t.Errorf("All: %d", got)
	}
	if len(energy.Each(rates, api.Log{}, 20)) != 0 || energy.All(rates, api.Log{}, 20) != 0 || energy.Car(rates, api.Log{}, 0, 20) != 0 {
		t.Error("of no car")
	}
}

// cost is P64.2, tick by tick.
func cost(r energy.Rates, l api.Log, car, horizon int) int {
	sum := 0
	for tick := range horizon {
		pos, door, _ := track.At(l.Legs[car], tick)
		before, was, ok := track.At(l.Legs[car], tick-1)
		if door && !was {
			sum += r.Open
		}
		if ok && pos != before {
			sum += energy.Step(r, pos-before, len(trip.Load(l.Trips, car, tick-1)))
		}
	}
	return sum
}

// P64.2
func TestDrawn(t *testing.T) {
	for seed := range uint64(2000) {
		r := rand.New(rand.NewPCG(seed, 64))
		l := api.Log{Trips: sample.Trips(r.IntN, r.IntN(12), 3, 2, 30)}
		for range 2 {
			l.Legs = append(l.Legs, sample.Legs(r.IntN, r.IntN(9), 0, 3))
		}
		rates := energy.Rates{Up: r.IntN(9), Down: r.IntN(9), Rider: r.IntN(4), Open: r.IntN(9)}
		horizon, sum := r.IntN(40)-1, 0
		for car := range 2 {
			want := cost(rates, l, car, horizon)
			sum += want
			if got := energy.Car(rates, l, car, horizon); got != want {
				t.Fatalf("Car %d of %v, %v ahead of %d: %d; want %d", car, rates, l, horizon, got, want)
			}
		}
		if got := energy.All(rates, l, horizon); got != sum {
			t.Fatalf("All of %v, %v ahead of %d: %d; want %d", rates, l, horizon, got, sum)
		}
	}
}

// P64.2: at the greatest horizon, with many.
func TestMany(t *testing.T) {
	l := api.Log{Legs: [][]api.Leg{{{Dir: 1}}}, Trips: slices.Repeat([]api.Trip{{Board: 0, Alight: -1}}, 1<<16)}
	if got := energy.All(energy.Rates{Up: 3, Rider: 2}, l, api.MaxHorizon); got != (api.MaxHorizon-1)*(3+2<<16) {
		t.Error(got)
	}
}

// P1: at any argument all of it ends.
func TestEnds(t *testing.T) {
	wild := [][]api.Leg{{{Tick: 0}, {Tick: math.MinInt}, {Tick: math.MaxInt, Door: true}}, {{Tick: math.MinInt, Pos: math.MinInt, Dir: math.MinInt}, {}}, {{Tick: 5}}, {{Dir: math.MaxInt}}}
	trips := []api.Trip{{Board: math.MaxInt}, {Board: 3, Alight: 1}, {Board: math.MinInt, Alight: math.MaxInt}, {Board: 1, Alight: math.MinInt}}
	for _, n := range []int{math.MinInt, -1, 0, 1, 1 << 20, math.MaxInt} {
		r := energy.Rates{Up: n, Down: n, Rider: n, Open: n}
		energy.Right(r)
		energy.Step(r, n, n)
		energy.All(r, api.Log{Trips: trips, Legs: wild}, n)
		energy.Car(r, api.Log{Trips: trips, Legs: wild}, n, n)
	}
}
