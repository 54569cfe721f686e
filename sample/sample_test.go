package sample_test

import (
	"math/rand/v2"
	"testing"

	"hoistway/api"
	"hoistway/arrive"
	"hoistway/sample"
	"hoistway/trip"
	"hoistway/vet"
)

func TestLegs(t *testing.T) {
	for seed := range uint64(100) {
		l := sample.Legs(rand.New(rand.NewPCG(seed, 0)).IntN, 20, 3, 9)
		if len(l) != 20 || l[0].Tick != 3 {
			t.Fatal(l)
		}
		for i, g := range l {
			if i > 0 && g.Tick <= l[i-1].Tick || g.Pos < 0 || g.Pos >= 9 || g.Dir < -1 || g.Dir > 1 {
				t.Fatal(l)
			}
		}
	}
}

func TestTrips(t *testing.T) {
	for seed := range uint64(100) {
		l := sample.Trips(rand.New(rand.NewPCG(seed, 1)).IntN, 50, 4, 2, 9)
		if done, ride, wait := trip.Counts(l); done == 0 || ride == 0 || wait == 0 || done+ride+wait != 50 {
			t.Fatal(l)
		}
		for i, x := range l {
			waits := x.Car == -1 && x.Board == -1 && x.Alight == -1
			rides := 0 <= x.Car && x.Car < 2 && x.Arrive <= x.Board && x.Board < 9 && (x.Alight == -1 || x.Board <= x.Alight && x.Alight < 9)
			if x.Id != i || x.Arrive < 0 || x.From < 0 || x.From >= 4 || x.To < 0 || x.To >= 4 || !waits && !rides {
				t.Fatal(x)
			}
		}
	}
}

func TestGame(t *testing.T) {
	var by [5]int
	late := 0
	for seed := range uint64(200) {
		s, people := sample.Game(rand.New(rand.NewPCG(seed, 2)).IntN)
		if e := vet.Check(s); e != api.OK {
			t.Fatal(s, e)
		}
		by[s.Dispatcher]++
		for i, p := range people {
			if p.Id != i || p.Tick < 0 || i > 0 && p.Tick < people[i-1].Tick || p.From == p.To || p.From < 0 || p.From >= s.Floors || p.To < 0 || p.To >= s.Floors {
				t.Fatal(s, people)
			}
			if p.Tick >= s.Horizon {
				late++
			}
		}
	}
	if by[1] < 20 || by[2] < 20 || by[3] < 20 || by[4] < 20 || late == 0 {
		t.Error(by, late)
	}
}

func TestTraffic(t *testing.T) {
	came, many, calm := 0, 0, 0
	for seed := range uint64(200) {
		s, words := sample.Traffic(rand.New(rand.NewPCG(seed, 3)).IntN)
		if e := vet.Check(s); e != api.OK {
			t.Fatal(s, int(e))
		}
		people, _, e := arrive.List(s, api.Stream{Words: words})
		if e != api.OK {
			t.Fatal(s, int(e))
		}
		came += len(people)
		many += min(len(s.Segments)-1, 1)
		for _, g := range s.Segments {
			if g.Rate == 0 {
				calm++
			}
		}
	}
	if came < 2000 || many < 100 || calm < 100 {
		t.Error(came, many, calm)
	}
}

func TestSameState(t *testing.T) {
	full := func() api.State {
		return api.State{
			Tick: 1, Cars: []api.Car{{Pos: 1, Dir: 1, Mode: api.Open, Left: 2, Riders: []api.Rider{{Id: 0, To: 3}}}},
			Waiting: []api.Waiter{{Id: 1, From: 2, To: 3, Car: -1}}, Calls: []api.Call{{Floor: 2, Dir: 1}}, Trips: []api.Trip{{}, {Id: 1}},
		}
	}
	if !sample.SameState(full(), full()) || !sample.SameState(api.State{}, api.State{Cars: []api.Car{}, Trips: []api.Trip{}}) {
		t.Error("not the same")
	}
	for i, change := range []func(s *api.State){
		func(s *api.State) { s.Tick = 2 },
		func(s *api.State) { s.Cars = nil },
		func(s *api.State) { s.Cars[0].Pos = 2 },
		func(s *api.State) { s.Cars[0].Dir = 0 },
		func(s *api.State) { s.Cars[0].Mode = api.Opening },
		func(s *api.State) { s.Cars[0].Left = 1 },
		func(s *api.State) { s.Cars[0].Waited = true },
		func(s *api.State) { s.Cars[0].Riders[0].To = 4 },
		func(s *api.State) { s.Waiting[0].Car = 0 },
		func(s *api.State) { s.Calls[0].Car = 1 },
		func(s *api.State) { s.Trips[1].Board = 5 },
	} {
		s := full()
		if change(&s); sample.SameState(s, full()) || sample.SameState(full(), s) {
			t.Errorf("change %d: the same", i)
		}
	}
}
