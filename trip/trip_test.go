package trip_test

import (
	"math"
	"math/rand/v2"
	"slices"
	"testing"

	"hoistway/api"
	"hoistway/trip"
)

const most = 1 << 30

// made: a trip by its number, car, and ticks.
func made(id, arrive, car, board, alight int) api.Trip {
	return api.Trip{Id: id, Arrive: arrive, From: 1, To: 2, Car: car, Board: board, Alight: alight}
}

// P24.1
func TestBegin(t *testing.T) {
	if trip.Waiting != 0 || trip.Riding != 1 || trip.Done != 2 {
		t.Error(trip.Waiting, trip.Riding, trip.Done)
	}
	for _, p := range []api.Passenger{{}, {Id: 7, Tick: 50, From: 3, To: 9}, {Id: -1, Tick: -2, From: -3, To: -4}, {Id: math.MaxInt, Tick: math.MinInt, From: math.MaxInt, To: math.MinInt}} {
		got := trip.Begin(p)
		if got != (api.Trip{Id: p.Id, Arrive: p.Tick, From: p.From, To: p.To, Car: -1, Board: -1, Alight: -1}) {
			t.Errorf("Begin(%v): %v", p, got)
		}
		if trip.At(got) != trip.Waiting {
			t.Errorf("At of Begin(%v): %d", p, trip.At(got))
		}
	}
}

// P24.1
func TestAt(t *testing.T) {
	for _, c := range []struct {
		car, board, alight int
		want               trip.Phase
	}{
		{-1, -1, -1, trip.Waiting}, {0, -1, -1, trip.Waiting}, {-1, math.MinInt, math.MinInt, trip.Waiting}, {0, 0, -1, trip.Riding}, {-1, 0, -1, trip.Riding}, {3, math.MaxInt, math.MinInt, trip.Riding},
		{0, 0, 0, trip.Done}, {0, 5, 9, trip.Done}, {0, -1, 0, trip.Done}, {-1, -1, 7, trip.Done}, {0, 9, 5, trip.Done}, {0, math.MinInt, math.MaxInt, trip.Done},
	} {
		for _, arrive := range []int{0, 5, -1} {
			if got := trip.At(made(0, arrive, c.car, c.board, c.alight)); got != c.want {
				t.Errorf("At of %v: %d", c, got)
			}
		}
	}
}

// P24.1
func TestCounts(t *testing.T) {
	l := []api.Trip{made(0, 0, 0, 1, 2), made(1, 0, -1, -1, -1), made(2, 0, 1, 3, -1), made(3, 0, 0, 1, 0), made(4, 0, 0, 0, -1), made(5, 0, 0, -1, 0)}
	for n, want := range [][3]int{{}, {1, 0, 0}, {1, 0, 1}, {1, 1, 1}, {2, 1, 1}, {2, 2, 1}, {3, 2, 1}} {
		if done, ride, wait := trip.Counts(l[:n]); done != want[0] || ride != want[1] || wait != want[2] {
			t.Errorf("Counts of %d: %d, %d, %d; want %v", n, done, ride, wait, want)
		}
	}
}

// P24.2
func TestWaitsTransits(t *testing.T) {
	l := []api.Trip{made(4, 10, 0, 30, 35), made(3, 0, -1, -1, -1), made(2, 0, 1, 3, -1), made(9, 5, 0, 5, 6), made(1, 7, 0, 17, 1000), made(1, 0, 0, 0, 0), made(0, 0, 0, 0, most), made(0, 0, 0, most, most), made(8, 0, 0, -1, 0), made(8, 9, 0, 4, 1)}
	as := slices.Clone(l)
	if got := trip.Waits(l); !slices.Equal(got, []int{20, 0, 10, 0, 0, most, -1, -5}) {
		t.Errorf("Waits: %v", got)
	}
	if got := trip.Transits(l); !slices.Equal(got, []int{5, 1, 983, 0, most, 0, 1, -3}) {
		t.Errorf("Transits: %v", got)
	}
	for _, none := range [][]api.Trip{nil, {}, l[1:3]} {
		if a, b := trip.Waits(none), trip.Transits(none); len(a) != 0 || len(b) != 0 {
			t.Errorf("Waits, Transits of none: %v, %v", a, b)
		}
	}
	if !slices.Equal(l, as) {
		t.Error(l)
	}
}

// P24.2
func TestAboard(t *testing.T) {
	for _, c := range []struct{ board, alight, until, want int }{
		{5, 9, 20, 4}, {5, 9, 9, 4}, {5, 9, 8, 3}, {5, 9, 6, 1}, {5, 9, 5, 0}, {5, 9, 4, 0}, {5, 9, 0, 0}, {5, 9, -1, 0},
		{5, -1, 20, 15}, {5, -1, 6, 1}, {5, -1, 5, 0}, {0, -1, 1, 1}, {0, 0, 5, 0}, {0, 1, 5, 1}, {0, -1, 0, 0},
		{-1, -1, 20, 0}, {-1, 9, 20, 0}, {9, 5, 20, 0}, {9, 0, 20, 0}, {9, 5, 7, 0}, {0, most, most, most}, {0, -1, most, most}, {most - 1, most, most, 1}, {most, -1, most, 0},
	} {
		if got := trip.Aboard([]api.Trip{made(0, 0, 0, c.board, c.alight)}, c.until); got != c.want {
			t.Errorf("Aboard of %d, %d until %d: %d; want %d", c.board, c.alight, c.until, got, c.want)
		}
	}
	l := []api.Trip{made(0, 0, 0, 5, 9), made(1, 0, 3, 7, -1), made(2, 0, -1, -1, -1), made(3, 0, 0, 9, 5), made(4, 0, 16, 0, 100)}
	for until, want := range map[int]int{-1: 0, 0: 0, 5: 5, 8: 3 + 1 + 8, 10: 4 + 3 + 10, 1000: 4 + 993 + 100} {
		if got := trip.Aboard(l, until); got != want {
			t.Errorf("Aboard until %d: %d; want %d", until, got, want)
		}
	}
	if got := trip.Aboard(nil, 5); got != 0 {
		t.Errorf("Aboard of none: %d", got)
	}
	if got := trip.Aboard(slices.Repeat(l[1:2], 10000), most); got != 10000*(most-7) {
		t.Errorf("Aboard of many: %d", got)
	}
}

// P24.2
func TestLoad(t *testing.T) {
	for _, c := range []struct {
		car, board, alight, tick int
		want                     bool
	}{
		{2, 5, 9, 4, false}, {2, 5, 9, 5, true}, {2, 5, 9, 8, true}, {2, 5, 9, 9, false}, {2, 5, 9, 10, false}, {2, 5, -1, 5, true}, {2, 5, -1, most, true}, {2, 5, -1, 4, false},
		{2, -1, -1, 9, false}, {2, -1, 50, 9, false}, {2, 0, -1, 0, true}, {2, 0, 0, 0, false}, {2, 0, 1, 0, true}, {2, 0, -1, -1, false}, {2, -1, -1, -1, false}, {2, 9, 5, 9, false}, {2, 9, 5, 7, false}, {2, most, -1, most, true}, {2, 0, most, most - 1, true},
		{1, 5, 9, 7, false}, {3, 5, 9, 7, false}, {-1, 5, 9, 7, false}, {math.MinInt, 5, 9, 7, false},
	} {
		got := trip.Load([]api.Trip{made(77, 0, c.car, c.board, c.alight)}, 2, c.tick)
		if c.want && !slices.Equal(got, []int{77}) || !c.want && len(got) != 0 {
			t.Errorf("Load of %v: %v", c, got)
		}
	}
	l := []api.Trip{made(0, 0, 1, 5, 9), made(1, 0, 2, 5, 9), made(2, 0, 1, 3, -1), made(3, 0, -1, 5, -1), made(4, 0, 1, 6, 8), made(5, 0, 1, 7, 7)}
	for tick, want := range [][]int{nil, nil, nil, {2}, {2}, {0, 2}, {0, 2, 4}, {0, 2, 4}, {0, 2}, {2}, {2}} {
		if got := trip.Load(l, 1, tick); !slices.Equal(got, want) {
			t.Errorf("Load(1, %d): %v; want %v", tick, got, want)
		}
	}
	if got := trip.Load(l, -1, 9); !slices.Equal(got, []int{3}) {
		t.Errorf("Load(-1, 9): %v", got)
	}
	if got := trip.Load(nil, 0, 9); len(got) != 0 {
		t.Errorf("Load of none: %v", got)
	}
}

// P24.2: Aboard is how many Load has, tick by tick.
func TestAboardIsLoad(t *testing.T) {
	for seed := range uint64(300) {
		r := rand.New(rand.NewPCG(seed, 24))
		var l []api.Trip
		for id := range r.IntN(20) {
			l = append(l, made(id, r.IntN(20), r.IntN(3), r.IntN(30)-1, r.IntN(30)-1))
		}
		sum := 0
		for tick := range 32 {
			for car := range 3 {
				sum += len(trip.Load(l, car, tick))
			}
			if got := trip.Aboard(l, tick+1); got != sum {
				t.Fatalf("Aboard(%v, %d): %d; want %d", l, tick+1, got, sum)
			}
		}
	}
}

// P1: any numbers.
func TestWrong(t *testing.T) {
	edges := []int{math.MinInt, -1, 0, math.MaxInt}
	for _, a := range edges {
		for _, b := range edges {
			for _, c := range edges {
				l := []api.Trip{made(a, b, c, a, b), made(b, c, a, b, c)}
				trip.Counts(l)
				trip.Waits(l)
				trip.Transits(l)
				trip.Aboard(l, c)
				trip.Load(l, a, b)
			}
		}
	}
}
