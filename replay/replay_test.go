package replay_test

import (
	"fmt"
	"math"
	"math/rand/v2"
	"slices"
	"testing"

	"hoistway/api"
	"hoistway/engine"
	"hoistway/replay"
	"hoistway/sample"
	"hoistway/tick"
	"hoistway/trip"
)

const (
	first = -1 << 30
	last  = 1 << 30
)

// log: two cars, and one that was nowhere; some are carried, one rides, one waits.
var log = api.Log{
	Trips: []api.Trip{
		{Id: 0, Arrive: 5, From: 1, To: 2, Car: 0, Board: 12, Alight: 20},
		{Id: 1, Arrive: 5, From: 1, To: 3, Car: 0, Board: 8, Alight: 30},
		{Id: 2, Arrive: 7, From: 0, To: 4, Car: 1, Board: 7, Alight: -1},
		{Id: 3, Arrive: 9, From: 3, To: 0, Car: -1, Board: -1, Alight: -1},
		{Id: 4, Arrive: 6, From: 1, To: 2, Car: 0, Board: 8, Alight: 20},
	},
	Legs: [][]api.Leg{
		{{Tick: 0, Pos: 3}, {Tick: 4, Pos: 4, Dir: 1}, {Tick: 8, Pos: 8, Door: true}, {Tick: 15, Pos: 7, Dir: -1}},
		{{Tick: 2, Pos: 9, Dir: -1}, {Tick: 7, Pos: 4}},
		nil,
	},
	Used: 9,
}

// same: what is told is what was to be told.
func same(t *testing.T, name string, got, want []int) {
	t.Helper()
	if !slices.Equal(got, want) {
		t.Errorf("%s: %v; want %v", name, got, want)
	}
}

// P51.1
func TestRiders(t *testing.T) {
	for _, c := range []struct {
		car, tick int
		want      []int
	}{
		{0, first, nil}, {0, -1, nil}, {0, 7, nil}, {0, 8, []int{1, 4}}, {0, 11, []int{1, 4}}, {0, 12, []int{1, 4, 0}}, {0, 19, []int{1, 4, 0}}, {0, 20, []int{1}}, {0, 29, []int{1}}, {0, 30, nil}, {0, last, nil},
		{1, 6, nil}, {1, 7, []int{2}}, {1, 99, []int{2}}, {1, last, []int{2}},
		{2, 12, nil}, {-1, 12, nil}, {-1, last, nil}, {math.MaxInt, 12, nil}, {math.MinInt, 12, nil},
	} {
		same(t, fmt.Sprintf("Riders in %d behind %d", c.car, c.tick), replay.Riders(log, c.car, c.tick), c.want)
	}
	// Ticks below 0: from 0 on there is a Board.
	early := api.Log{Trips: []api.Trip{{Board: -3, Alight: -2}, {Id: 1, Board: 0, Alight: -5}, {Id: 2, Board: 1, Alight: 0}}}
	same(t, "early", replay.Riders(early, 0, 5), []int{1})
	same(t, "of none", replay.Riders(api.Log{}, 0, 0), nil)
}

// P51.1: those who got in at one tick are told in order, however many there are.
func TestRidersAtOnce(t *testing.T) {
	var l api.Log
	var want []int
	for id := range 100 {
		l.Trips = append(l.Trips, api.Trip{Id: id, Board: 9 - id/10%3, Alight: -1})
	}
	for board := range 10 {
		for _, x := range l.Trips {
			if x.Board == board {
				want = append(want, x.Id)
			}
		}
	}
	same(t, "at once", replay.Riders(l, 0, 9), want)
	same(t, "a tick ahead", replay.Riders(l, 0, 8), slices.DeleteFunc(want, func(id int) bool { return l.Trips[id].Board > 8 }))
}

// P51.1
func TestWaiting(t *testing.T) {
	for _, c := range []struct {
		tick int
		want []int
	}{
		{first, nil}, {4, nil}, {5, []int{0, 1}}, {6, []int{0, 1, 4}}, {7, []int{0, 1, 4}}, {8, []int{0}}, {9, []int{0, 3}}, {11, []int{0, 3}}, {12, []int{3}}, {last, []int{3}},
	} {
		same(t, fmt.Sprintf("Waiting behind %d", c.tick), replay.Waiting(log, c.tick), c.want)
	}
	early := api.Log{Trips: []api.Trip{{Arrive: -9, Board: -3, Alight: -2}, {Id: 1, Arrive: -8, Board: 0, Alight: 4}, {Id: 2, Arrive: 1, Board: 0, Alight: 3}, {Id: 3, Arrive: first, Board: -1, Alight: 2}}}
	same(t, "early", replay.Waiting(early, first), []int{3})
	same(t, "ahead of 0", replay.Waiting(early, -1), []int{0, 1, 3})
	same(t, "behind 0", replay.Waiting(early, 0), []int{0, 3})
	same(t, "behind 3", replay.Waiting(early, 3), []int{0, 3})
	same(t, "of none", replay.Waiting(api.Log{}, 0), nil)
}

// P51.1
func TestDone(t *testing.T) {
	for _, c := range []struct {
		tick int
		want []int
	}{
		{first, nil}, {-1, nil}, {19, nil}, {20, []int{0, 4}}, {29, []int{0, 4}}, {30, []int{0, 1, 4}}, {last, []int{0, 1, 4}},
	} {
		same(t, fmt.Sprintf("Done behind %d", c.tick), replay.Done(log, c.tick), c.want)
	}
	early := api.Log{Trips: []api.Trip{{Alight: -3}, {Id: 1, Alight: 0}, {Id: 2, Alight: -1, Board: 4}}}
	same(t, "below 0", replay.Done(early, -1), nil)
	same(t, "behind 0", replay.Done(early, 0), []int{1})
	same(t, "of none", replay.Done(api.Log{}, 0), nil)
}

// P51.1: where no leg has a car, it is at 0; its door makes no difference.
func TestWhere(t *testing.T) {
	for _, c := range []struct {
		tick int
		want []int
	}{
		{first, []int{0, 0, 0}}, {-1, []int{0, 0, 0}}, {0, []int{3, 0, 0}}, {3, []int{3, 8, 0}}, {4, []int{4, 7, 0}}, {7, []int{7, 4, 0}}, {8, []int{8, 4, 0}}, {14, []int{8, 4, 0}}, {15, []int{7, 4, 0}}, {20, []int{2, 4, 0}}, {last, []int{22 - last, 4, 0}},
	} {
		same(t, fmt.Sprintf("Where behind %d", c.tick), replay.Where(log, c.tick), c.want)
	}
	same(t, "of no car", replay.Where(api.Log{Trips: log.Trips}, 9), nil)
}

// P51.2, and the chapter's example.
func TestStory(t *testing.T) {
	for _, c := range []struct {
		l    api.Log
		id   int
		want string
	}{
		{log, 0, "0 came at 5 from 1 to 2, in at 12 by car 0, out at 20"},
		{log, 1, "1 came at 5 from 1 to 3, in at 8 by car 0, out at 30"},
		{log, 2, "2 came at 7 from 0 to 4, in at 7 by car 1, rides"},
		{log, 3, "3 came at 9 from 3 to 0, waits"},
		{log, 4, "4 came at 6 from 1 to 2, in at 8 by car 0, out at 20"},
		{log, 5, ""}, {log, -1, ""}, {log, math.MaxInt, ""}, {log, math.MinInt, ""},
		{api.Log{}, 0, ""}, {api.Log{Legs: log.Legs, Used: 4}, 0, ""},
		{api.Log{Trips: []api.Trip{{Arrive: 5, From: 1, To: 2, Car: -1, Board: -1, Alight: -1}}}, 0, "0 came at 5 from 1 to 2, waits"},
		{api.Log{Trips: []api.Trip{{}}}, 0, "0 came at 0 from 0 to 0, in at 0 by car 0, out at 0"},
		{api.Log{Trips: []api.Trip{{Arrive: first, From: 127, To: 126, Car: 15, Board: last, Alight: -2}}}, 0, "0 came at -1073741824 from 127 to 126, in at 1073741824 by car 15, rides"},
		// As layer 24 tells it: out is out.
		{api.Log{Trips: []api.Trip{{Car: -1, Board: -1, Alight: 3}}}, 0, "0 came at 0 from 0 to 0, in at -1 by car -1, out at 3"},
		{api.Log{Trips: []api.Trip{{Car: 3, Board: -1, Alight: -1}}}, 0, "0 came at 0 from 0 to 0, waits"},
	} {
		if got := replay.Story(c.l, c.id); got != c.want {
			t.Errorf("Story of %d: %q; want %q", c.id, got, c.want)
		}
	}
}

// ids: the numbers of trips of which something holds.
func ids(l []api.Trip, holds func(api.Trip) bool) []int {
	var numbers []int
	for _, x := range l {
		if holds(x) {
			numbers = append(numbers, x.Id)
		}
	}
	return numbers
}

// checkState: a log tells how things are behind a tick.
func checkState(t *testing.T, l api.Log, behind int, s api.State) {
	t.Helper()
	var where, waiting []int
	for i, c := range s.Cars {
		where = append(where, c.Pos)
		var riders []int
		for _, r := range c.Riders {
			riders = append(riders, r.Id)
		}
		same(t, fmt.Sprintf("Riders in %d behind %d", i, behind), replay.Riders(l, i, behind), riders)
	}
	for _, w := range s.Waiting {
		waiting = append(waiting, w.Id)
	}
	same(t, fmt.Sprintf("Waiting behind %d", behind), replay.Waiting(l, behind), waiting)
	same(t, fmt.Sprintf("Where behind %d", behind), replay.Where(l, behind), where)
	done := ids(s.Trips, func(x api.Trip) bool { return trip.At(x) == trip.Done })
	same(t, fmt.Sprintf("Done behind %d", behind), replay.Done(l, behind), done)
}

// P51.3: of the log of a whole drawn run, by either simulation, this is how things were behind each of its ticks.
func TestDrawn(t *testing.T) {
	rode := 0
	for seed := range uint64(600) {
		s, people := sample.Game(rand.New(rand.NewPCG(seed, 54)).IntN)
		whole := engine.Run(s, people)
		slow := tick.Run(s, people)
		x := tick.New(s, people)
		for behind := range s.Horizon {
			x.Step()
			state := x.W.State()
			checkState(t, whole, behind, state)
			for _, c := range state.Cars {
				if len(c.Riders) > 1 {
					rode++
				}
			}
			if behind%50 == 49 {
				checkState(t, slow, behind, state)
			}
		}
		// Ahead of its first tick nothing was.
		checkState(t, whole, -1, api.State{Cars: make([]api.Car, s.Cars)})
		if t.Failed() {
			t.Fatalf("seed %d", seed)
		}
	}
	if rode < 10000 {
		t.Error(rode)
	}
}

// P1, P2, and the rules: of logs as they like each call ends, tells the same again in memory of its own, and changes nothing.
func TestRaw(t *testing.T) {
	numbers := []int{math.MinInt, -7, -1, 0, 1, 2, 3, 7, math.MaxInt}
	for seed := range uint64(3000) {
		r := rand.New(rand.NewPCG(seed, 55))
		one := func() int { return numbers[r.IntN(len(numbers))] }
		l := api.Log{Trips: []api.Trip{}, Legs: make([][]api.Leg, r.IntN(3))}
		for range r.IntN(5) {
			l.Trips = append(l.Trips, api.Trip{Id: one(), Arrive: one(), From: one(), To: one(), Car: one() % 2, Board: one(), Alight: one()})
		}
		for i := range l.Legs {
			for range r.IntN(4) {
				l.Legs[i] = append(l.Legs[i], api.Leg{Tick: one(), Pos: one(), Dir: one(), Door: r.IntN(2) == 0})
			}
		}
		trips, car, behind := slices.Clone(l.Trips), one()%2, one()
		for name, tell := range map[string]func() []int{
			"Riders":  func() []int { return replay.Riders(l, car, behind) },
			"Waiting": func() []int { return replay.Waiting(l, behind) },
			"Done":    func() []int { return replay.Done(l, behind) },
			"Where":   func() []int { return replay.Where(l, behind) },
		} {
			once := tell()
			for i, n := range tell() {
				if once[i] != n {
					t.Fatalf("%s: %v", name, once)
				}
				once[i] = ^n
			}
			for i, n := range tell() {
				if once[i] != ^n {
					t.Fatalf("%s: not its own memory", name)
				}
			}
		}
		if id := one(); (replay.Story(l, id) != "") != (id >= 0 && id < len(l.Trips)) || !slices.Equal(l.Trips, trips) {
			t.Fatal(l, id)
		}
	}
}
