// Package sample makes up ways and trips, and scenarios with those who come, for the tests of the layers that tell something of such.
package sample

import (
	"slices"

	"hoistway/api"
)

// Draw answers a number from 0 on, below the one that it is asked for.
type Draw func(below int) int

// Legs: so many legs, from a tick on, each for a few ticks, at places from 0 on, below a number (but for where its Dir leads it).
func Legs(draw Draw, many, tick, places int) []api.Leg {
	var l []api.Leg
	for range many {
		l = append(l, api.Leg{Tick: tick, Pos: draw(places), Dir: draw(3) - 1, Door: draw(2) == 1})
		tick += 1 + draw(6)
	}
	return l
}

// Trips: so many trips, between so many floors, by so many cars, whose ticks lie ahead of a tick: some wait, some ride, some are done.
func Trips(draw Draw, many, floors, cars, ticks int) []api.Trip {
	var l []api.Trip
	for id := range many {
		t := api.Trip{Id: id, Arrive: draw(ticks), From: draw(floors), To: draw(floors), Car: -1, Board: -1, Alight: -1}
		if draw(4) > 0 {
			t.Car, t.Board = draw(cars), t.Arrive+draw(ticks-t.Arrive)
		}
		if t.Board >= 0 && draw(4) > 0 {
			t.Alight = t.Board + draw(ticks-t.Board)
		}
		l = append(l, t)
	}
	return l
}

// Game: a scenario that may be, of few floors and cars, and who comes: now and then many at once, and then nobody for long; of some games a few come behind the horizon.
func Game(draw Draw) (api.Scenario, []api.Passenger) {
	s := api.Scenario{
		Floors: 2 + draw(9), Gap: 1 + draw(4), Cars: 1 + draw(4), Capacity: 1 + draw(4),
		Open: 1 + draw(4), Dwell: 1 + draw(4), Close: 1 + draw(4), Transfer: 1 + draw(4),
		Segments:   []api.Segment{{Kind: api.Lunch, Ticks: 100, Rate: 30}},
		Dispatcher: api.Dispatcher(1 + draw(4)), Horizon: 1 + draw(400), Bins: 1, Width: 1,
	}
	var people []api.Passenger
	for now := 0; len(people) < 60 && now < s.Horizon+5; now += draw(1 + draw(40)) {
		p := api.Passenger{Id: len(people), Tick: now, From: draw(s.Floors)}
		p.To = (p.From + 1 + draw(s.Floors-1)) % s.Floors
		people = append(people, p)
	}
	return s, people
}

// Traffic: such a scenario with a few segments of traffic, some of them without any, and more words than it takes.
func Traffic(draw Draw) (api.Scenario, []uint32) {
	s, _ := Game(draw)
	s.Bins, s.Width, s.Segments = 1+draw(9), 1+draw(40), nil
	for range 1 + draw(api.MaxSegments) {
		g := api.Segment{Kind: api.Template(1 + draw(4)), Ticks: 1 + draw(150)}
		if draw(3) > 0 {
			g.Rate = draw(1 + draw(600))
		}
		s.Segments = append(s.Segments, g)
	}
	words := make([]uint32, 3000)
	for i := range words {
		words[i] = uint32(draw(1 << 32))
	}
	return s, words
}

// SameCar: are two cars the same?
func SameCar(a, b api.Car) bool {
	return a.Pos == b.Pos && a.Dir == b.Dir && a.Mode == b.Mode && a.Left == b.Left && a.Waited == b.Waited && slices.Equal(a.Riders, b.Riders)
}

// SameState: are two states the same?
func SameState(a, b api.State) bool {
	return a.Tick == b.Tick && slices.EqualFunc(a.Cars, b.Cars, SameCar) && slices.Equal(a.Waiting, b.Waiting) && slices.Equal(a.Calls, b.Calls) && slices.Equal(a.Trips, b.Trips)
}
