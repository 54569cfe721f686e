// Package sample makes up ways and trips, for the tests of the layers that tell something of such.
package sample

import (
	"hoistway/api"
)

// Draw answers a number from 0 on, below the one that it is asked for.
type Draw func(below int) int

// Legs: so many legs, from a tick on, each for a few ticks, at places from 0 on, below a number (but for where its Dir leads it).
func Legs(draw Draw, many, tick, places int) []api.Leg {
	var l []api.Leg
	for range many {
		l = append(l, api.Leg{Tick: tick, Pos: draw(places), Dir: draw(3) - 1, Door: draw(2) == 1})
		tick += 1 + draw(6)
	}
	return l
}

// Trips: so many trips, between so many floors, by so many cars, whose ticks lie ahead of a tick: some wait, some ride, some are done.
func Trips(draw Draw, many, floors, cars, ticks int) []api.Trip {
	var l []api.Trip
	for id := range many {
		t := api.Trip{Id: id, Arrive: draw(ticks), From: draw(floors), To: draw(floors), Car: -1, Board: -1, Alight: -1}
		if draw(4) > 0 {
			t.Car, t.Board = draw(cars), t.Arrive+draw(ticks-t.Arrive)
		}
		if t.Board >= 0 && draw(4) > 0 {
			t.Alight = t.Board + draw(ticks-t.Board)
		}
		l = append(l, t)
	}
	return l
}
