package move_test

import (
	"math"
	"math/rand/v2"
	"slices"
	"testing"

	"hoistway/api"
	"hoistway/bits"
	"hoistway/face"
	"hoistway/move"
)

// house has a gap, so that there are places between its floors.
var house = api.Scenario{Floors: 10, Gap: 3, Cars: 1, Capacity: 3, Open: 7, Dwell: 20, Close: 30, Transfer: 40}

// car: one with riders to floors.
func car(pos, dir int, mode api.Mode, to ...int) api.Car {
	c := api.Car{Pos: pos, Dir: dir, Mode: mode}
	for i, floor := range to {
		c.Riders = append(c.Riders, api.Rider{Id: i, To: floor})
	}
	return c
}

func same(a, b api.Car) bool {
	return a.Pos == b.Pos && a.Dir == b.Dir && a.Mode == b.Mode && a.Left == b.Left && a.Waited == b.Waited && slices.Equal(a.Riders, b.Riders)
}

// P40.1: each case that the chapter names, by itself. The floor 5 is at 15.
func TestStep(t *testing.T) {
	for _, c := range []struct {
		name           string
		car            api.Car
		up, down       api.Set
		pos, dir, left int
		mode           api.Mode
	}{
		{"between two floors, up", car(16, 1, api.Moving), bits.Of(), bits.Of(), 17, 1, 0, api.Moving},
		{"between two floors, down", car(16, -1, api.Moving), bits.Of(), bits.Of(), 15, -1, 0, api.Moving},
		{"between two floors nothing turns it", car(17, 1, api.Moving, 0), bits.Of(5), bits.Of(5), 18, 1, 0, api.Moving},
		{"nothing", car(15, 0, api.Idle), bits.Of(), bits.Of(), 15, 0, 0, api.Idle},
		{"nothing any more", car(15, 1, api.Idle), bits.Of(), bits.Of(), 15, 0, 0, api.Idle},
		{"nothing any more, as it moves", car(15, -1, api.Moving), bits.Of(), bits.Of(), 15, 0, 0, api.Idle},
		{"idle, a call here", car(15, 0, api.Idle), bits.Of(5), bits.Of(), 15, 1, 7, api.Opening},
		{"idle, a call down here, and something above", car(15, 0, api.Idle), bits.Of(8), bits.Of(5), 15, -1, 7, api.Opening},
		{"idle, something above", car(15, 0, api.Idle), bits.Of(8), bits.Of(), 16, 1, 0, api.Moving},
		{"idle, something below", car(15, 0, api.Idle), bits.Of(), bits.Of(3), 14, -1, 0, api.Moving},
		{"idle, something the other way", car(15, 1, api.Idle), bits.Of(3), bits.Of(), 14, -1, 0, api.Moving},
		{"a rider out, and more on", car(15, 1, api.Moving, 5, 8), bits.Of(), bits.Of(), 15, 1, 7, api.Opening},
		{"a rider out, and nothing else", car(15, 1, api.Moving, 5), bits.Of(), bits.Of(), 15, 0, 7, api.Opening},
		{"a rider out, and a call for the other way", car(15, 1, api.Moving, 5), bits.Of(), bits.Of(5), 15, -1, 7, api.Opening},
		{"a call its way", car(15, 1, api.Moving, 8), bits.Of(5), bits.Of(), 15, 1, 7, api.Opening},
		{"a call the other way, and something on", car(15, 1, api.Moving, 8), bits.Of(), bits.Of(5), 16, 1, 0, api.Moving},
		{"a call the other way, and something on, down", car(15, -1, api.Moving, 2), bits.Of(5), bits.Of(), 14, -1, 0, api.Moving},
		{"a call the other way, and nothing on", car(15, 1, api.Moving, 2), bits.Of(), bits.Of(5), 15, -1, 7, api.Opening},
		{"it turns, as nothing lies on any more", car(15, 1, api.Moving), bits.Of(2), bits.Of(), 14, -1, 0, api.Moving},
		{"full, it passes a call its way", car(15, 1, api.Moving, 8, 8, 9), bits.Of(5), bits.Of(5), 16, 1, 0, api.Moving},
		{"full, it stops for a rider", car(15, 1, api.Moving, 8, 5, 9), bits.Of(5), bits.Of(), 15, 1, 7, api.Opening},
		{"full, it goes the way of its riders", car(15, 1, api.Moving, 2, 2, 3), bits.Of(5, 8), bits.Of(8), 14, -1, 0, api.Moving},
		{"at the lowest floor", car(0, -1, api.Moving), bits.Of(0), bits.Of(), 0, 1, 7, api.Opening},
		{"at the highest floor", car(27, 1, api.Moving), bits.Of(), bits.Of(9), 27, -1, 7, api.Opening},
	} {
		want := c.car
		want.Pos, want.Dir, want.Mode, want.Left = c.pos, c.dir, c.mode, c.left
		if got := move.Step(house, c.car, c.up, c.down); !same(got, want) {
			t.Errorf("%s: %v; want %v", c.name, got, want)
		}
	}
}

// P40.1: all else is as it was; the riders are new memory.
func TestElse(t *testing.T) {
	for _, c := range []api.Car{car(16, 1, api.Moving, 8, 9), car(15, 1, api.Moving, 8, 9), car(15, 1, api.Moving, 5, 9), car(15, 0, api.Idle)} {
		c.Waited = true
		got := move.Step(house, c, api.Set{}, api.Set{})
		if !got.Waited || !slices.Equal(got.Riders, c.Riders) {
			t.Errorf("%v: %v", c, got)
		}
		if len(got.Riders) > 0 {
			got.Riders[0].To = 77
			if c.Riders[0].To == 77 {
				t.Errorf("%v: the riders that were handed in are changed", c)
			}
		}
	}
}

// The chapter's example.
func TestExample(t *testing.T) {
	if got := move.Step(house, car(4, -1, api.Moving), api.Set{}, api.Set{}); got.Pos != 3 {
		t.Error(got)
	}
}

// P40.2: each case that the chapter names, by itself.
func TestAhead(t *testing.T) {
	for _, c := range []struct {
		name         string
		car          api.Car
		up, down     api.Set
		ticks, floor int
	}{
		{"at a floor, nothing on", car(15, 1, api.Moving), bits.Of(), bits.Of(), 1, 5},
		{"at a floor, it stops here", car(15, 1, api.Moving, 8), bits.Of(5), bits.Of(), 1, 5},
		{"at a floor, a rider out", car(15, -1, api.Moving, 5), bits.Of(), bits.Of(), 1, 5},
		{"at a floor, it turns", car(15, 1, api.Moving), bits.Of(2), bits.Of(), 1, 5},
		{"at a floor, on to the next", car(15, 1, api.Moving), bits.Of(6), bits.Of(), 4, 6},
		{"between two floors, up", car(16, 1, api.Moving), bits.Of(6), bits.Of(), 3, 6},
		{"between two floors, down", car(16, -1, api.Moving), bits.Of(5), bits.Of(), 2, 5},
		{"between two floors, nothing on: it stands at the next", car(16, 1, api.Moving), bits.Of(), bits.Of(), 3, 6},
		{"between two floors, something behind: it turns at the next", car(16, 1, api.Moving), bits.Of(5), bits.Of(), 3, 6},
		{"past floors", car(1, 1, api.Moving, 8), bits.Of(), bits.Of(), 24, 8},
		{"past floors, down", car(26, -1, api.Moving, 2), bits.Of(), bits.Of(), 21, 2},
		{"past calls the other way", car(1, 1, api.Moving, 8), bits.Of(), bits.Of(1, 2, 3), 24, 8},
		{"up to a call its way", car(1, 1, api.Moving, 8), bits.Of(4), bits.Of(1, 2, 3), 12, 4},
		{"up to the farthest call the other way", car(0, 1, api.Moving), bits.Of(), bits.Of(2, 6), 19, 6},
		{"down to the farthest call the other way", car(27, -1, api.Moving), bits.Of(1, 6), bits.Of(), 25, 1},
		{"full, past calls its way", car(0, 1, api.Moving, 7, 7, 9), bits.Of(1, 2, 8), bits.Of(9), 22, 7},
		{"to the highest floor", car(0, 1, api.Moving), bits.Of(), bits.Of(9), 28, 9},
		{"to the lowest floor", car(27, -1, api.Moving), bits.Of(0), bits.Of(), 28, 0},
	} {
		if ticks, floor := move.Ahead(house, c.car, c.up, c.down); ticks != c.ticks || floor != c.floor {
			t.Errorf("%s: %d, %d; want %d, %d", c.name, ticks, floor, c.ticks, c.floor)
		}
	}
}

// P40.2: through the highest building that may be.
func TestHighest(t *testing.T) {
	s := api.Scenario{Floors: api.MaxFloors, Gap: api.MaxGap, Capacity: 1, Open: 1}
	if ticks, floor := move.Ahead(s, car(0, 1, api.Moving, 127), bits.Of(), bits.Of()); ticks != 127*16+1 || floor != 127 {
		t.Error(ticks, floor)
	}
	if ticks, floor := move.Ahead(s, car(127*16, -1, api.Moving, 0), bits.Of(), bits.Of()); ticks != 127*16+1 || floor != 0 {
		t.Error(ticks, floor)
	}
}

// step is P40.1, word by word.
func step(s api.Scenario, c api.Car, up, down api.Set) api.Car {
	if c.Pos%s.Gap != 0 {
		c.Pos += c.Dir
		return c
	}
	floor := c.Pos / s.Gap
	sight := face.See(c, s.Capacity, up, down)
	faces := sight.Of(floor, c.Dir)
	if sight.Stop(c, floor) {
		c.Mode, c.Left, c.Dir = api.Opening, s.Open, faces
		return c
	}
	if faces == 0 {
		c.Mode, c.Dir = api.Idle, 0
		return c
	}
	c.Mode, c.Dir, c.Pos = api.Moving, faces, c.Pos+faces
	return c
}

// drawn: a set of few floors.
func drawn(r *rand.Rand, floors int) api.Set {
	var s api.Set
	for range r.IntN(4) {
		s = bits.With(s, r.IntN(floors))
	}
	return s
}

// P40.1, P40.2: of drawn cars; ahead is the first tick, step by step, in which a car doesn't go on.
func TestDrawn(t *testing.T) {
	for seed := range uint64(30000) {
		r := rand.New(rand.NewPCG(seed, 40))
		s := api.Scenario{Floors: 2 + r.IntN(7), Gap: 1 + r.IntN(4), Capacity: 1 + r.IntN(3), Open: 1 + r.IntN(9)}
		var to []int
		for range r.IntN(s.Capacity + 1) {
			to = append(to, r.IntN(s.Floors))
		}
		up, down := drawn(r, s.Floors), drawn(r, s.Floors)
		idle := car(r.IntN(s.Floors)*s.Gap, r.IntN(3)-1, api.Idle, to...)
		moving := car(r.IntN((s.Floors-1)*s.Gap+1), 1-2*r.IntN(2), api.Moving, to...)
		for _, c := range []api.Car{idle, moving} {
			if got, want := move.Step(s, c, up, down), step(s, c, up, down); !same(got, want) {
				t.Fatalf("seed %d: Step of %v: %v; want %v", seed, c, got, want)
			}
		}
		ticks, floor := move.Ahead(s, moving, up, down)
		c := moving
		for tick := 1; ; tick++ {
			next := step(s, c, up, down)
			if next.Mode == api.Moving && next.Dir == c.Dir {
				c = next
				continue
			}
			if ticks != tick || floor*s.Gap != c.Pos {
				t.Fatalf("seed %d: Ahead of %v: %d, %d; want %d at %d", seed, moving, ticks, floor, tick, c.Pos)
			}
			break
		}
	}
}

// P1: at any argument all of it ends.
func TestEnds(t *testing.T) {
	numbers := []int{math.MinInt, -7, -1, 0, 1, 7, 1000, math.MaxInt}
	full := bits.Range(0, 128)
	for _, a := range numbers {
		for _, b := range numbers {
			s := api.Scenario{Floors: a, Gap: b, Capacity: a, Open: b}
			for _, dir := range numbers {
				c := car(a, dir, api.Mode(b), a, b)
				for _, up := range []api.Set{{}, full, bits.Of(0), bits.Of(127)} {
					move.Step(s, c, up, full)
					move.Step(s, c, up, api.Set{})
					move.Ahead(s, c, up, full)
					move.Ahead(s, c, up, api.Set{})
				}
			}
		}
	}
}
