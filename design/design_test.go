package design_test

import (
	"math"
	"math/rand/v2"
	"slices"
	"testing"

	"hoistway/api"
	"hoistway/arrive"
	"hoistway/cumul"
	"hoistway/design"
	"hoistway/draw"
	"hoistway/engine"
	"hoistway/goal"
	"hoistway/sample"
	"hoistway/tick"
	"hoistway/trip"
	"hoistway/vet"
)

const most = 1 << 20

// group: a design.
func group(cars, capacity int, d api.Dispatcher) design.Design {
	return design.Design{Cars: cars, Capacity: capacity, Dispatcher: d}
}

// P67.1, and the chapter's example.
func TestPrice(t *testing.T) {
	for _, c := range []struct{ cars, capacity, price, destination int }{
		{2, 8, 36, 40},
		{0, 0, 0, 0}, {0, 64, 0, 0}, {0, most, 0, 0},
		{1, 0, 10, 11}, {1, 1, 11, 13}, {1, 9, 19, 21}, {1, 10, 20, 22}, {1, 11, 21, 24}, {3, 7, 51, 57}, {10, 1, 110, 121}, {16, 64, 1184, 1303},
		{most, 0, 10485760, 11534336}, {most, most, 1099522113536, 1209474324890}, {1, most, 1048586, 1153445},
	} {
		for _, d := range []api.Dispatcher{0, api.Collective, api.Sectors, api.Soonest, 5, -1, math.MaxInt} {
			if got := design.Price(group(c.cars, c.capacity, d)); got != c.price {
				t.Errorf("Price of %d of %d by %d: %d; want %d", c.cars, c.capacity, d, got, c.price)
			}
		}
		if got := design.Price(group(c.cars, c.capacity, api.Destination)); got != c.destination {
			t.Errorf("Price of %d of %d by Destination: %d; want %d", c.cars, c.capacity, got, c.destination)
		}
	}
	// The least number of which ten are as many as the price, or more.
	for cars := range 20 {
		for capacity := range 70 {
			price := design.Price(group(cars, capacity, api.Soonest))
			more := design.Price(group(cars, capacity, api.Destination)) - price
			if price != cars*capacity+10*cars || 10*more < price || 10*(more-1) >= price {
				t.Errorf("Price of %d of %d: %d, and %d more", cars, capacity, price, more)
			}
		}
	}
}

// house has traffic in its first two ticks alone, and one car.
var house = api.Scenario{
	Floors: 3, Gap: 2, Cars: 1, Capacity: 2, Open: 2, Dwell: 3, Close: 2, Transfer: 1,
	Segments:   []api.Segment{{Kind: api.UpPeak, Ticks: 2, Rate: 300}, {Kind: api.Lunch, Ticks: 5}},
	Dispatcher: api.Collective, Horizon: 40, Bins: 3, Width: 2,
}

// two are the words of which one comes in each of these ticks to the floor 0, where the car stands: to the floors 2 and 1.
var two = []uint32{3 << 30, 1 << 31, 3 << 30, 0}

// P67.1: all else is as it was; what is answered has segments of its own.
func TestWith(t *testing.T) {
	s := house
	s.Segments = slices.Clone(house.Segments)
	for _, d := range []design.Design{{}, group(3, 8, api.Destination), group(0, most, 5), group(-1, -2, -3), group(math.MaxInt, math.MinInt, math.MinInt)} {
		got := design.With(s, d)
		want := house
		want.Cars, want.Capacity, want.Dispatcher = d.Cars, d.Capacity, d.Dispatcher
		if !vet.Same(got, want) {
			t.Errorf("With %v: %v; want %v", d, got, want)
		}
		got.Segments[0].Rate = 7
		_ = append(got.Segments[:1], api.Segment{})
		if !vet.Same(s, house) {
			t.Fatalf("With %v: %v now", d, s)
		}
	}
	if got := design.With(api.Scenario{}, group(1, 2, 3)); !vet.Same(got, api.Scenario{Cars: 1, Capacity: 2, Dispatcher: 3}) {
		t.Error(got)
	}
}

// people: who comes to a scenario.
func people(t *testing.T, s api.Scenario, words []uint32) []api.Passenger {
	t.Helper()
	l, _, e := arrive.List(s, api.Stream{Words: words})
	if e != api.OK {
		t.Fatal(int(e))
	}
	return l
}

// P67.2: by hand: they wait two ticks each, and ride 23 and 11, if one car takes both of them.
func TestOf(t *testing.T) {
	goals := []goal.Goal{
		{Of: goal.Wait, Most: 2}, {Of: goal.Wait, P: 95, Most: 1}, {Of: goal.Transit, P: 100, Most: 23}, {Of: goal.Transit, P: 100, Most: 22}, {Of: goal.Share, Most: 100}, {Of: goal.Wait, Most: 1},
	}
	come := people(t, house, two)
	for _, c := range []struct {
		d       design.Design
		horizon int
		goals   []goal.Goal
		want    design.Found
	}{
		{group(1, 2, api.Collective), 40, goals, design.Found{Failed: 3, Done: 2, Waits: 4}},
		{group(1, 64, api.Destination), 40, goals, design.Found{Failed: 3, Done: 2, Waits: 4}},
		{group(1, 2, api.Soonest), 40, nil, design.Found{Done: 2, Waits: 4}},
		{group(1, 2, api.Soonest), 40, goals[:1], design.Found{Done: 2, Waits: 4}},
		{group(1, 2, api.Sectors), 40, slices.Repeat(goals[1:2], 9), design.Found{Failed: 9, Done: 2, Waits: 4}},
		// By then only one is out, and the other one rides.
		{group(1, 2, api.Sectors), 20, goals, design.Found{Failed: 3, Done: 1, Waits: 2}},
		// Of nobody who is out yet the share fails alone.
		{group(1, 2, api.Sectors), 2, goals, design.Found{Failed: 1}},
		// Only one has room: the other one, who came at tick 1, waits till the car is back, and gets in at tick 28.
		{group(1, 1, api.Collective), 400, goals, design.Found{Failed: 3, Done: 2, Waits: 2 + 27}},
	} {
		s := house
		s.Horizon = c.horizon
		c.want.D = c.d
		before, wanted := slices.Clone(come), slices.Clone(c.goals)
		if got := design.Of(s, come, c.d, c.goals); got != c.want {
			t.Errorf("Of %v, %d ticks: %v; want %v", c.d, c.horizon, got, c.want)
		}
		if !slices.Equal(come, before) || !slices.Equal(c.goals, wanted) {
			t.Errorf("Of %v: %v, %v now", c.d, come, c.goals)
		}
	}
	if got := design.Of(house, nil, group(1, 2, 1), goals); got != (design.Found{D: group(1, 2, 1)}) {
		t.Error(got)
	}
}

// plain: what P67.2 asks of one design, tick by tick.
func plain(s api.Scenario, come []api.Passenger, d design.Design, goals []goal.Goal) design.Found {
	s.Cars, s.Capacity, s.Dispatcher = d.Cars, d.Capacity, d.Dispatcher
	log := tick.Run(s, come)
	found := design.Found{D: d}
	for _, g := range goals {
		if !goal.Met(g, log.Trips) {
			found.Failed++
		}
	}
	for _, x := range log.Trips {
		if x.Alight >= 0 {
			found.Done++
			found.Waits += x.Board - x.Arrive
		}
	}
	return found
}

// drawnGoals: a few goals that are right.
func drawnGoals(r *rand.Rand) []goal.Goal {
	var l []goal.Goal
	for range r.IntN(6) {
		g := goal.Goal{Of: goal.Of(1 + r.IntN(3)), Most: r.IntN(101)}
		if g.Of != goal.Share && r.IntN(3) > 0 {
			g.P = 1 + r.IntN(100)
		}
		l = append(l, g)
	}
	return l
}

// P67.2: drawn scenarios and designs, against a run tick by tick.
func TestAllDrawn(t *testing.T) {
	failed, met, apart := 0, 0, 0
	for seed := range uint64(400) {
		r := rand.New(rand.NewPCG(seed, 67))
		s, words := sample.Traffic(r.IntN)
		goals := drawnGoals(r)
		var l []design.Design
		var want []design.Found
		come := people(t, s, words)
		for range r.IntN(5) {
			d := group(1+r.IntN(5), 1+r.IntN(6), api.Dispatcher(1+r.IntN(4)))
			l = append(l, d)
			want = append(want, plain(s, come, d, goals))
			if got := design.Of(s, come, d, goals); got != want[len(want)-1] {
				t.Fatalf("seed %d: Of %v: %v; want %v", seed, d, got, want[len(want)-1])
			}
			failed += want[len(want)-1].Failed
			met += len(goals) - want[len(want)-1].Failed
			if want[0].Waits != want[len(want)-1].Waits {
				apart++
			}
		}
		// The scenario's own group makes no difference, be it one that may not be.
		for _, own := range []design.Design{group(s.Cars, s.Capacity, s.Dispatcher), {}, group(17, 65, 9)} {
			got, e := design.All(design.With(s, own), api.Stream{Words: words}, goals, l...)
			if e != api.OK || !slices.Equal(got, want) {
				t.Fatalf("seed %d: %v, %d; want %v", seed, got, int(e), want)
			}
		}
	}
	if failed < 300 || met < 300 || apart < 200 {
		t.Error(failed, met, apart)
	}
}

// P67.2
func TestAll(t *testing.T) {
	goals := []goal.Goal{{Of: goal.Wait, P: 100, Most: 2}}
	l := []design.Design{group(1, 1, 1), group(1, 2, 2), group(1, 2, 2), group(16, 64, 4)}
	want := []design.Found{{D: l[0], Failed: 1, Done: 2, Waits: 2 + 27}, {D: l[1], Done: 2, Waits: 4}, {D: l[2], Done: 2, Waits: 4}, {D: l[3], Done: 2, Waits: 4}}
	words := append([]uint32{9, 9}, two...)
	wereWords, wereDesigns := slices.Clone(words), slices.Clone(l)
	for _, stream := range []api.Stream{{Words: two}, {Words: words, At: 2}, {Words: append(two, 1, 2, 3)}} {
		got, e := design.All(house, stream, goals, l...)
		if e != api.OK || !slices.Equal(got, want) {
			t.Errorf("%v, %d; want %v", got, int(e), want)
		}
	}
	if !slices.Equal(words, wereWords) || !slices.Equal(l, wereDesigns) {
		t.Error(words, l)
	}
	// Of no designs there is none, and nothing is wrong with any.
	if got, e := design.All(api.Scenario{}, api.Stream{}, goals); len(got) != 0 || e != api.OK {
		t.Error(got, int(e))
	}
}

// P67.2: the error of the first design that has one, and nothing found.
func TestAllWrong(t *testing.T) {
	fine := group(1, 2, api.Soonest)
	for i, c := range []struct {
		words []uint32
		l     []design.Design
		want  api.Errno
	}{
		{two, []design.Design{{}}, api.ErrBound},
		{two, []design.Design{group(0, 2, 1)}, api.ErrBound},
		{two, []design.Design{group(api.MaxCars+1, 2, 1)}, api.ErrBound},
		{two, []design.Design{group(1, 0, 1)}, api.ErrBound},
		{two, []design.Design{group(1, api.MaxCapacity+1, 1)}, api.ErrBound},
		{two, []design.Design{group(most, most, 0)}, api.ErrBound},
		{two, []design.Design{group(1, 2, 0)}, api.ErrWord},
		{two, []design.Design{group(1, 2, 5)}, api.ErrWord},
		{two, []design.Design{fine, fine, group(1, 2, -1)}, api.ErrWord},
		{two, []design.Design{fine, group(1, 2, 5), group(0, 2, 1)}, api.ErrWord},
		{two, []design.Design{group(0, 2, 1), group(1, 2, 5)}, api.ErrBound},
		{two[:3], []design.Design{fine}, api.ErrDry},
		{nil, []design.Design{fine, group(0, 2, 1)}, api.ErrDry},
		{nil, []design.Design{group(1, 2, 5), fine}, api.ErrWord},
	} {
		if got, e := design.All(house, api.Stream{Words: c.words}, nil, c.l...); len(got) != 0 || e != c.want {
			t.Errorf("%d: %v, %d; want %d", i, got, int(e), int(c.want))
		}
	}
	for i, c := range []struct {
		change func(s *api.Scenario)
		want   api.Errno
	}{
		{func(s *api.Scenario) { s.Floors = 129 }, api.ErrBound},
		{func(s *api.Scenario) { s.Horizon = 0 }, api.ErrBound},
		{func(s *api.Scenario) { s.Segments = nil }, api.ErrLack},
		{func(s *api.Scenario) { s.Segments = slices.Repeat(s.Segments, 5) }, api.ErrSize},
		{func(s *api.Scenario) { s.Segments = []api.Segment{{}} }, api.ErrWord},
	} {
		s := house
		c.change(&s)
		if got, e := design.All(s, api.Stream{Words: two}, nil, fine); len(got) != 0 || e != c.want {
			t.Errorf("%d: %v, %d; want %d", i, got, int(e), int(c.want))
		}
	}
	if got, e := design.All(house, api.Stream{Words: two, At: -1}, nil, fine); len(got) != 0 || e != api.ErrDry {
		t.Error(got, int(e))
	}
}

// P67.2: more people than there may be come by any design.
func TestAllTooMany(t *testing.T) {
	s := house
	s.Horizon = api.MaxHorizon
	s.Segments = []api.Segment{{Kind: api.Lunch, Ticks: api.MaxHorizon, Rate: api.MaxRate}}
	table, _ := cumul.Table(api.MaxRate)
	many := draw.Of(table, math.MaxUint32)
	words := slices.Repeat([]uint32{math.MaxUint32}, (api.MaxPeople/many+1)*(many+1))
	if got, e := design.All(s, api.Stream{Words: words}, nil, group(1, 2, 1), group(0, 0, 0)); len(got) != 0 || e != api.ErrSize {
		t.Error(got, int(e))
	}
}

// P67.3
func TestBest(t *testing.T) {
	found := func(cars, capacity int, d api.Dispatcher, failed int) design.Found {
		return design.Found{D: group(cars, capacity, d), Failed: failed}
	}
	for i, c := range []struct {
		l    []design.Found
		want int
	}{
		{nil, -1}, {[]design.Found{}, -1}, {[]design.Found{{}}, 0}, {[]design.Found{found(1, 1, 1, 1)}, -1}, {[]design.Found{found(1, 1, 1, 1), found(1, 1, 1, 7)}, -1},
		{[]design.Found{found(1, 1, 1, 1), found(9, 9, 1, 0)}, 1},
		{[]design.Found{found(2, 8, 1, 0), found(3, 2, 1, 0), found(1, 26, 1, 0)}, 0},
		{[]design.Found{found(2, 9, 1, 0), found(3, 2, 1, 0), found(1, 26, 1, 0)}, 1},
		{[]design.Found{found(2, 8, 4, 0), found(2, 9, 1, 0)}, 1},
		{[]design.Found{found(2, 8, 4, 0), found(2, 10, 1, 0)}, 0},
		{[]design.Found{found(0, 0, 1, 2), found(most, most, 4, 0), found(most, most, 3, 0), found(most, most, 1, 0)}, 2},
		// Neither who is carried nor how long they wait counts.
		{[]design.Found{{D: group(1, 2, 1), Done: 1, Waits: 9}, {D: group(1, 2, 1), Done: 9, Waits: 1}}, 0},
	} {
		before := slices.Clone(c.l)
		if got := design.Best(c.l); got != c.want || !slices.Equal(before, c.l) {
			t.Errorf("%d: Best: %d; want %d", i, got, c.want)
		}
	}
}

// beats: is one found nowhere worse than another one, and somewhere better?
func beats(a, b design.Found) bool {
	dear, dearer := design.Price(a.D), design.Price(b.D)
	worse := dear > dearer || a.Done < b.Done || a.Waits > b.Waits
	return !worse && (dear < dearer || a.Done > b.Done || a.Waits < b.Waits)
}

// P67.3
func TestFront(t *testing.T) {
	for seed := range uint64(3000) {
		r := rand.New(rand.NewPCG(seed, 68))
		var l []design.Found
		for range r.IntN(12) {
			f := design.Found{D: group(r.IntN(4), r.IntN(4), api.Dispatcher(1+r.IntN(4))), Failed: r.IntN(3), Done: r.IntN(4), Waits: r.IntN(4)}
			if r.IntN(4) == 0 {
				f.D.Cars, f.Done, f.Waits = most, 1<<40-r.IntN(2), 1<<40-r.IntN(2)
			}
			l = append(l, f)
		}
		var want []int
		for i, f := range l {
			if !slices.ContainsFunc(l, func(other design.Found) bool { return beats(other, f) }) {
				want = append(want, i)
			}
		}
		before := slices.Clone(l)
		if got := design.Front(l); !slices.Equal(got, want) || !slices.Equal(before, l) {
			t.Fatalf("Front of %v: %v; want %v", before, got, want)
		}
	}
	if got := design.Front(nil); len(got) != 0 {
		t.Error(got)
	}
	// How many goals failed counts for nothing; of those that are alike each is in it.
	one := design.Found{D: group(1, 2, 1), Failed: 3, Done: 5, Waits: 7}
	other := one
	other.Failed = 0
	if got := design.Front([]design.Found{one, other, one}); !slices.Equal(got, []int{0, 1, 2}) {
		t.Error(got)
	}
}

// P67.3: letter by letter.
func TestText(t *testing.T) {
	for _, c := range []struct {
		l    []design.Found
		want string
	}{
		{nil, "cars  places  price  failed  carried  waits\n"},
		{[]design.Found{{D: group(2, 8, api.Soonest), Failed: 1, Done: 120, Waits: 2048}, {D: group(2, 8, api.Destination), Done: 7}, {}}, `cars  places  price  failed  carried  waits
2          8     36       1      120   2048
2          8     40       0        7      0
0          0      0       0        0      0
`},
		{[]design.Found{{D: group(most, most, api.Destination), Failed: 12, Done: 1 << 40, Waits: 1 << 40}}, `cars      places          price  failed        carried          waits
1048576  1048576  1209474324890      12  1099511627776  1099511627776
`},
	} {
		if got := design.Text(c.l); got != c.want {
			t.Errorf("Text of %v:\n%s; want\n%s", c.l, got, c.want)
		}
	}
}

// P1, P2: of numbers as they like each call ends, and tells the same again.
func TestRaw(t *testing.T) {
	numbers := []int{math.MinInt, -1, 0, 1, 2, 9, math.MaxInt}
	for seed := range uint64(2000) {
		r := rand.New(rand.NewPCG(seed, 69))
		one := func() int { return numbers[r.IntN(len(numbers))] }
		var l []design.Found
		var groups []design.Design
		for range 1 + r.IntN(4) {
			d := group(one(), one(), api.Dispatcher(one()))
			groups = append(groups, d)
			l = append(l, design.Found{D: d, Failed: one(), Done: one(), Waits: one()})
		}
		if best := design.Best(l); best < -1 || best >= len(l) || best >= 0 && l[best].Failed != 0 || design.Text(l) != design.Text(l) {
			t.Fatal(l, best)
		}
		if got := design.Front(l); len(got) == 0 || !slices.Equal(got, design.Front(l)) {
			t.Fatal(l, got)
		}
		goals := []goal.Goal{{Of: goal.Of(one()), P: one(), Most: one()}}
		a, e := design.All(house, api.Stream{Words: two}, goals, groups...)
		b, again := design.All(house, api.Stream{Words: two}, goals, groups...)
		if e != again || !slices.Equal(a, b) || e != api.OK && len(a) != 0 {
			t.Fatal(groups, a, b, int(e), int(again))
		}
		s := house
		s.Floors, s.Gap, s.Open, s.Close, s.Dwell, s.Transfer = one(), one(), one(), one(), one(), one()
		come := []api.Passenger{{Tick: one(), From: one(), To: one()}, {Id: one(), Tick: one(), From: one(), To: one()}}
		if x, y := design.Of(s, come, groups[0], goals), design.Of(s, come, groups[0], goals); x != y {
			t.Fatal(s, come, groups[0], x, y)
		}
	}
}

// P67.2, P2: Of is of the run from event to event, whose trips are all that counts.
func TestOfRun(t *testing.T) {
	d := group(2, 3, api.Destination)
	for seed := range uint64(100) {
		s, come := sample.Game(rand.New(rand.NewPCG(seed, 70)).IntN)
		log := engine.Run(design.With(s, d), come)
		done, _, _ := trip.Counts(log.Trips)
		got := design.Of(s, come, d, []goal.Goal{{Of: goal.Share, Most: 100}})
		if got.D != d || got.Done != done || (got.Failed == 0) != (done == len(log.Trips)) {
			t.Fatalf("seed %d: %v; want %d", seed, got, done)
		}
	}
}
