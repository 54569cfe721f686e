package bench_test

import (
	"math"
	"math/big"
	"math/rand/v2"
	"slices"
	"testing"

	"hoistway/api"
	"hoistway/arrive"
	"hoistway/bench"
	"hoistway/cumul"
	"hoistway/draw"
	"hoistway/engine"
	"hoistway/sample"
	"hoistway/tick"
	"hoistway/vet"
)

// by: each dispatcher.
func by() []api.Dispatcher {
	return []api.Dispatcher{api.Collective, api.Sectors, api.Soonest, api.Destination}
}

// waited: a log of which those who are carried waited so long, each of whom came at another tick; between them stand others, who ride or wait.
func waited(waits ...int) api.Log {
	l := api.Log{Trips: []api.Trip{{Arrive: 1, Car: -1, Board: -1, Alight: -1}}}
	for i, n := range waits {
		l.Trips = append(l.Trips, api.Trip{Id: len(l.Trips), Arrive: i, Board: i + n, Alight: i + n + 1000})
		l.Trips = append(l.Trips, api.Trip{Id: len(l.Trips), Arrive: i, Board: i + 7777, Alight: -1})
	}
	return l
}

// upTo: the numbers from 1 to one, the greatest ahead.
func upTo(n int) []int {
	var l []int
	for ; n > 0; n-- {
		l = append(l, n)
	}
	return l
}

// mean: a quotient.
func mean(whole, rest, by int) api.Frac { return api.Frac{Whole: whole, Rest: rest, By: by} }

// P50.1
func TestDispatchers(t *testing.T) {
	if got := bench.Dispatchers(); got != [4]api.Dispatcher{1, 2, 3, 4} || !slices.Equal(got[:], by()) {
		t.Error(got)
	}
}

// P50.1
func TestOf(t *testing.T) {
	for _, c := range []struct {
		l    api.Log
		want bench.Row
	}{
		{api.Log{}, bench.Row{}},
		{api.Log{Trips: []api.Trip{}, Legs: [][]api.Leg{{{}}}, Used: 3}, bench.Row{}},
		{waited(), bench.Row{}},
		{waited(0), bench.Row{Done: 1, Some: true, Mean: mean(0, 0, 1)}},
		{waited(7), bench.Row{Done: 1, Some: true, Mean: mean(7, 0, 1), High: 7}},
		{waited(0, 0), bench.Row{Done: 2, Some: true, Mean: mean(0, 0, 2)}},
		{waited(5, 0), bench.Row{Done: 2, Some: true, Mean: mean(2, 1, 2), High: 5}},
		// What is left isn't made less.
		{waited(1, 9, 2, 2), bench.Row{Done: 4, Some: true, Mean: mean(3, 2, 4), High: 9}},
		{waited(upTo(19)...), bench.Row{Done: 19, Some: true, Mean: mean(10, 0, 19), High: 19}},
		{waited(upTo(20)...), bench.Row{Done: 20, Some: true, Mean: mean(10, 10, 20), High: 19}},
		{waited(upTo(21)...), bench.Row{Done: 21, Some: true, Mean: mean(11, 0, 21), High: 20}},
		{waited(upTo(100)...), bench.Row{Done: 100, Some: true, Mean: mean(50, 50, 100), High: 95}},
		{waited(1<<30, 1<<30), bench.Row{Done: 2, Some: true, Mean: mean(1<<30, 0, 2), High: 1 << 30}},
		// Where one waited below nothing there is no mean, so that there is no percentile either.
		{waited(-1, 5), bench.Row{Done: 2}},
	} {
		before := slices.Clone(c.l.Trips)
		for _, d := range []api.Dispatcher{0, 1, 2, 3, 4, 5, -1, math.MaxInt, math.MinInt} {
			c.want.Dispatcher = d
			if got := bench.Of(d, c.l); got != c.want {
				t.Errorf("Of(%d, %v): %v; want %v", d, c.l.Trips, got, c.want)
			}
		}
		if !slices.Equal(c.l.Trips, before) {
			t.Errorf("%v are %v now", before, c.l.Trips)
		}
	}
}

// house has traffic in its first two ticks alone, and one car, which any dispatcher sends.
var house = api.Scenario{
	Floors: 3, Gap: 2, Cars: 1, Capacity: 2, Open: 2, Dwell: 3, Close: 2, Transfer: 1,
	Segments:   []api.Segment{{Kind: api.UpPeak, Ticks: 2, Rate: 300}},
	Dispatcher: api.Collective, Horizon: 40, Bins: 3, Width: 2,
}

// two are the words of which one comes in each of these ticks to the floor 0, where the car stands: each gets in two ticks later.
var two = []uint32{3 << 30, 1 << 31, 3 << 30, 0}

// P50.1: by hand.
func TestAll(t *testing.T) {
	var want []bench.Row
	for _, d := range by() {
		want = append(want, bench.Row{Dispatcher: d, Done: 2, Some: true, Mean: mean(2, 0, 2), High: 2})
	}
	words := slices.Clone(two)
	for _, d := range by() {
		s := house
		s.Dispatcher = d
		s.Segments = slices.Clone(house.Segments)
		for _, stream := range []api.Stream{{Words: words}, {Words: append([]uint32{5, 6, 7}, two...), At: 3}, {Words: append(words, 9, 9)}} {
			at := stream.At
			got, e := bench.All(s, stream)
			if e != api.OK || !slices.Equal(got, want) || stream.At != at {
				t.Errorf("by %d: %v, %d; want %v", d, got, int(e), want)
			}
		}
		if s.Dispatcher != d || !slices.Equal(s.Segments, house.Segments) || !slices.Equal(words, two) {
			t.Errorf("changed: %v, %v", s, words)
		}
	}
	// Of nobody there is a row of each dispatcher, too.
	got, e := bench.All(house, api.Stream{Words: []uint32{0, 0}})
	if e != api.OK || !slices.Equal(got, []bench.Row{{Dispatcher: 1}, {Dispatcher: 2}, {Dispatcher: 3}, {Dispatcher: 4}}) {
		t.Error(got, int(e))
	}
}

// P50.1: drawn scenarios: each row is that of the run of the same people, the same tick by tick.
func TestAllDrawn(t *testing.T) {
	apart := 0
	for seed := range uint64(400) {
		s, words := sample.Traffic(rand.New(rand.NewPCG(seed, 50)).IntN)
		got, e := bench.All(s, api.Stream{Words: words})
		people, _, _ := arrive.List(s, api.Stream{Words: words})
		if e != api.OK || len(got) != 4 {
			t.Fatalf("seed %d: %v, %d", seed, got, int(e))
		}
		for i, d := range by() {
			s.Dispatcher = d
			want := bench.Of(d, engine.Run(s, people))
			if slow := bench.Of(d, tick.Run(s, people)); got[i] != want || got[i] != slow || got[i].Dispatcher != d {
				t.Fatalf("seed %d, %d: %v; want %v, %v", seed, d, got[i], want, slow)
			}
			if i > 0 && (got[i].Done != got[0].Done || got[i].Mean != got[0].Mean) {
				apart++
			}
		}
		// By which dispatcher the scenario itself goes makes no difference.
		if again, _ := bench.All(s, api.Stream{Words: words}); !slices.Equal(again, got) {
			t.Fatalf("seed %d: %v; want %v", seed, again, got)
		}
	}
	if apart < 200 {
		t.Error(apart)
	}
}

// P50.1: what is wrong, by layer 28: of the scenario as it is, by its own dispatcher; and no row.
func TestAllWrong(t *testing.T) {
	for i, c := range []struct {
		change func(s *api.Scenario)
		stream api.Stream
		want   api.Errno
	}{
		{func(s *api.Scenario) { *s = api.Scenario{} }, api.Stream{Words: two}, api.ErrBound},
		{func(s *api.Scenario) { s.Floors = 1 }, api.Stream{Words: two}, api.ErrBound},
		{func(s *api.Scenario) { s.Cars = api.MaxCars + 1 }, api.Stream{Words: two}, api.ErrBound},
		{func(s *api.Scenario) { s.Bins, s.Dispatcher = 0, 0 }, api.Stream{Words: two}, api.ErrBound},
		{func(s *api.Scenario) { s.Dispatcher = 0 }, api.Stream{Words: two}, api.ErrWord},
		{func(s *api.Scenario) { s.Dispatcher = 5 }, api.Stream{Words: two}, api.ErrWord},
		{func(s *api.Scenario) { s.Dispatcher = -1 }, api.Stream{}, api.ErrWord},
		{func(s *api.Scenario) { s.Segments = nil }, api.Stream{Words: two}, api.ErrLack},
		{func(s *api.Scenario) { s.Segments = slices.Repeat(s.Segments, 9) }, api.Stream{Words: two}, api.ErrSize},
		{func(s *api.Scenario) { s.Segments = []api.Segment{{Kind: 5, Ticks: 1}} }, api.Stream{Words: two}, api.ErrWord},
		{func(s *api.Scenario) { s.Segments = []api.Segment{{Kind: 1, Ticks: 0}} }, api.Stream{Words: two}, api.ErrBound},
		{func(s *api.Scenario) {}, api.Stream{}, api.ErrDry},
		{func(s *api.Scenario) {}, api.Stream{Words: two[:3]}, api.ErrDry},
		{func(s *api.Scenario) {}, api.Stream{Words: two, At: 2}, api.ErrDry},
		{func(s *api.Scenario) {}, api.Stream{Words: two, At: -1}, api.ErrDry},
		{func(s *api.Scenario) {}, api.Stream{Words: two, At: math.MaxInt}, api.ErrDry},
	} {
		s := house
		c.change(&s)
		if got, e := bench.All(s, c.stream); len(got) != 0 || e != c.want {
			t.Errorf("%d: %v, %d; want %d", i, got, int(e), int(c.want))
		}
	}
}

// P50.1: of more people than there may be.
func TestAllTooMany(t *testing.T) {
	s := house
	s.Horizon = api.MaxHorizon
	s.Segments = []api.Segment{{Kind: api.Lunch, Ticks: api.MaxHorizon, Rate: api.MaxRate}}
	table, _ := cumul.Table(api.MaxRate)
	most := draw.Of(table, math.MaxUint32)
	words := slices.Repeat([]uint32{math.MaxUint32}, (api.MaxPeople/most+1)*(most+1))
	if got, e := bench.All(s, api.Stream{Words: words}); len(got) != 0 || e != api.ErrSize {
		t.Error(got, int(e))
	}
}

// row: what Of tells of those who waited so long.
func row(d api.Dispatcher, waits ...int) bench.Row { return bench.Of(d, waited(waits...)) }

// P50.2: of two rows neither of which is the other's better, or the first is.
func TestBetter(t *testing.T) {
	for _, c := range []struct {
		better, worse bench.Row
		as            bool
	}{
		{row(1), row(2), true},
		{row(1, 0), row(2), false},
		{row(1, 1<<30), row(2), false},
		{row(1, 50, 60), row(2, 0), false},
		{row(1, 4), row(2, 4), true},
		{row(4, 3), row(1, 4), false},
		{row(2, 1, 1, 2), row(1, 1, 2, 2), false},
		{row(3, 2, 2), row(4, 1, 3), false},
		{row(1, 0, 9), row(1, 2, 8), false},
		{row(1, 3, 1), row(1, 1, 3), true},
		// As much is waited on the average, and the greatest is no part of the percentile.
		{row(1, slices.Repeat([]int{5}, 100)...), row(2, append(slices.Repeat([]int{5}, 98), 0, 10)...), true},
		{row(1, slices.Repeat([]int{5}, 100)...), row(2, append(slices.Repeat([]int{4, 6}, 49), 0, 10)...), false},
		// Of quotients: what they are counts, not how they are written.
		{bench.Row{Done: 4, Some: true, Mean: mean(3, 1, 2), High: 7}, bench.Row{Done: 4, Some: true, Mean: mean(3, 2, 4), High: 7}, true},
		{bench.Row{Done: 4, Some: true, Mean: mean(3, 1, 2), High: 6}, bench.Row{Done: 4, Some: true, Mean: mean(3, 2, 4), High: 7}, false},
		{bench.Row{Done: 4, Some: true, Mean: mean(2, 3, 4), High: 9}, bench.Row{Done: 4, Some: true, Mean: mean(3, 0, 4), High: 8}, false},
	} {
		if got := bench.Better(c.better, c.worse); got == c.as {
			t.Errorf("Better(%v, %v): %v", c.better, c.worse, got)
		}
		if bench.Better(c.worse, c.better) {
			t.Errorf("Better(%v, %v)", c.worse, c.better)
		}
	}
}

// ahead: is a row ahead of another one, by big numbers? (Of rows of those who waited from 0 on.)
func ahead(a, b bench.Row) bool {
	if a.Done != b.Done || a.Done == 0 {
		return a.Done > b.Done
	}
	what := func(f api.Frac) *big.Rat {
		return new(big.Rat).Add(big.NewRat(int64(f.Whole), 1), big.NewRat(int64(f.Rest), int64(f.By)))
	}
	if c := what(a.Mean).Cmp(what(b.Mean)); c != 0 {
		return c < 0
	}
	return a.High < b.High
}

// drawnRows: a few rows that are often alike in something.
func drawnRows(r *rand.Rand) []bench.Row {
	var l []bench.Row
	for range r.IntN(8) {
		var waits []int
		for range r.IntN(4) {
			waits = append(waits, r.IntN(4)*(1+r.IntN(2)))
		}
		l = append(l, row(api.Dispatcher(1+r.IntN(4)), waits...))
	}
	return l
}

// P50.2: Best is the first row than which none is better; each two rows are held against each other by big numbers.
func TestBestDrawn(t *testing.T) {
	ties := 0
	for seed := range uint64(5000) {
		l := drawnRows(rand.New(rand.NewPCG(seed, 51)))
		want := -1
		for i, a := range l {
			first := true
			for _, b := range l {
				if got := bench.Better(a, b); got != ahead(a, b) {
					t.Fatalf("Better(%v, %v): %v", a, b, got)
				}
				if a != b && !ahead(a, b) && !ahead(b, a) {
					ties++
				}
				first = first && !ahead(b, a)
			}
			if first && want < 0 {
				want = i
			}
		}
		before := slices.Clone(l)
		if got := bench.Best(l); got != want || !slices.Equal(l, before) {
			t.Fatalf("Best(%v): %d; want %d", before, got, want)
		}
	}
	if ties < 1000 {
		t.Error(ties)
	}
}

// P50.2
func TestBest(t *testing.T) {
	none := row(1, -5, 6) // as many are carried, but there is no mean
	for _, c := range []struct {
		l    []bench.Row
		want int
	}{
		{nil, -1}, {[]bench.Row{}, -1}, {[]bench.Row{{}}, 0}, {[]bench.Row{{}, {}}, 0}, {[]bench.Row{row(1), row(2), row(3, 900)}, 2},
		{[]bench.Row{row(1, 5, 5), row(2, 4, 5), row(3, 5, 4), row(4, 0)}, 1},
		{[]bench.Row{row(1, 5, 5), none, row(2, 4, 5)}, 1}, {[]bench.Row{row(1, 5, 5), row(2, 4, 5), none}, 1}, {[]bench.Row{none, row(1, 1, 1, 1), none}, 1}, {[]bench.Row{row(1, 3), none, none}, 1},
	} {
		if got := bench.Best(c.l); got != c.want {
			t.Errorf("Best(%v): %d; want %d", c.l, got, c.want)
		}
	}
	// Of very many rows, too.
	many := slices.Repeat([]bench.Row{row(1, 5)}, 1000000)
	many[len(many)-1] = row(1, 4)
	if got := bench.Best(many); got != len(many)-1 {
		t.Error(got)
	}
}

// P50.2: letter by letter.
func TestText(t *testing.T) {
	for _, c := range []struct {
		l    []bench.Row
		want string
	}{
		{nil, "dispatcher  delivered  wait  p95  best\n"},
		{[]bench.Row{row(1, 1, 1, 0), row(2, 0, 1, 1), row(3, 200, 100), row(4)}, `dispatcher   delivered    wait  p95  best
collective           3    0.66    1     *
sectors              3    0.66    1     -
soonest              2  150.00  200     -
destination          0     n/a  n/a     -
`},
		{[]bench.Row{row(2, 7), row(1, upTo(200)...)}, `dispatcher  delivered    wait  p95  best
sectors             1    7.00    7     -
collective        200  100.50  190     *
`},
		{[]bench.Row{row(4), row(4)}, `dispatcher   delivered  wait  p95  best
destination          0   n/a  n/a     *
destination          0   n/a  n/a     -
`},
		// A dispatcher that is none has no word; 0.999.. is rounded down; so is 0.005.
		{[]bench.Row{row(0, append(slices.Repeat([]int{1}, 999), 0)...), row(5, append(make([]int, 199), 1)...)}, `dispatcher  delivered  wait  p95  best
                 1000  0.99    1     *
                  200  0.00    0     -
`},
		{[]bench.Row{row(3, 1<<30)}, `dispatcher  delivered           wait         p95  best
soonest             1  1073741824.00  1073741824     *
`},
	} {
		if got := bench.Text(c.l); got != c.want {
			t.Errorf("Text(%v):\n%s; want\n%s", c.l, got, c.want)
		}
	}
}

// P1, P2: of rows and logs as they like each call ends, and tells the same again.
func TestRaw(t *testing.T) {
	numbers := []int{math.MinInt, -1, 0, 1, 2, math.MaxInt}
	for seed := range uint64(3000) {
		r := rand.New(rand.NewPCG(seed, 52))
		one := func() int { return numbers[r.IntN(len(numbers))] }
		var l []bench.Row
		var log api.Log
		for range 1 + r.IntN(4) {
			l = append(l, bench.Row{Dispatcher: api.Dispatcher(one()), Done: one(), Mean: mean(one(), one(), one()), Some: r.IntN(2) == 0, High: one()})
			log.Trips = append(log.Trips, api.Trip{Id: one(), Arrive: one(), Car: one(), Board: one(), Alight: one()})
		}
		if best := bench.Best(l); best < 0 || best >= len(l) || best != bench.Best(l) || bench.Text(l) != bench.Text(l) {
			t.Fatal(l, best)
		}
		if a, b := bench.Of(1, log), bench.Of(1, log); a != b || !a.Some && (a.High != 0 || a.Mean != api.Frac{}) {
			t.Fatal(log, a, b)
		}
	}
}

// P1: at both ends of the bounds there are four rows.
func TestBounds(t *testing.T) {
	least := api.Scenario{
		Floors: 2, Gap: 1, Cars: 1, Capacity: 1, Open: 1, Dwell: 1, Close: 1, Transfer: 1,
		Segments: []api.Segment{{Kind: api.Interfloor, Ticks: 1}}, Dispatcher: api.Destination, Horizon: 1, Bins: 1, Width: 1,
	}
	greatest := api.Scenario{
		Floors: api.MaxFloors, Gap: api.MaxGap, Cars: api.MaxCars, Capacity: api.MaxCapacity,
		Open: api.MaxDoor, Dwell: api.MaxDoor, Close: api.MaxDoor, Transfer: api.MaxDoor,
		Segments:   slices.Repeat([]api.Segment{{Kind: api.DownPeak, Ticks: api.MaxHorizon, Rate: 1}}, api.MaxSegments),
		Dispatcher: api.Collective, Horizon: api.MaxHorizon, Bins: api.MaxBins, Width: api.MaxWidth,
	}
	r := rand.New(rand.NewPCG(1, 53))
	words := make([]uint32, api.MaxHorizon+5000)
	for i := range words {
		words[i] = r.Uint32()
	}
	for _, s := range []api.Scenario{least, greatest} {
		got, e := bench.All(s, api.Stream{Words: words})
		if e != api.OK || len(got) != 4 || vet.Check(s) != api.OK {
			t.Error(got, int(e))
		}
	}
}
