package face_test

import (
	"math"
	"math/rand/v2"
	"testing"

	"hoistway/api"
	"hoistway/bits"
	"hoistway/face"
	"hoistway/want"
)

func car(dir int, to ...int) api.Car {
	c := api.Car{Dir: dir}
	for i, floor := range to {
		c.Riders = append(c.Riders, api.Rider{Id: i, To: floor})
	}
	return c
}

// drawn: a set of few floors.
func drawn(r *rand.Rand, floors int) api.Set {
	var s api.Set
	for range r.IntN(4) {
		s = bits.With(s, r.IntN(floors))
	}
	return s
}

// P31.1
func TestSee(t *testing.T) {
	up, down := bits.Of(1, 70), bits.Of(2, 127)
	for _, c := range []struct {
		car      api.Car
		capacity int
		want     face.Sight
	}{
		{car(0), 4, face.Sight{Wants: bits.Of(1, 2, 70, 127), Up: up, Down: down}},
		{car(0, 5, 2), 3, face.Sight{Wants: bits.Of(1, 2, 5, 70, 127), Up: up, Down: down}},
		{car(0, 5, 2), 2, face.Sight{Wants: bits.Of(2, 5)}},
		{car(1, 5, 5, 5), 2, face.Sight{Wants: bits.Of(5)}},
		{car(1, -1, 128), 3, face.Sight{Wants: bits.Of(1, 2, 70, 127), Up: up, Down: down}},
		{car(0), 0, face.Sight{}},
		{car(0), -1, face.Sight{}},
	} {
		if got := face.See(c.car, c.capacity, up, down); got != c.want {
			t.Errorf("See(%v, %d): %v; want %v", c.car, c.capacity, got, c.want)
		}
	}
}

// P31.1
func TestCall(t *testing.T) {
	s := face.Sight{Wants: bits.Of(9), Up: bits.Of(3, 4), Down: bits.Of(4, 5)}
	for _, c := range []struct {
		floor, dir int
		want       bool
	}{
		{3, 1, true}, {4, 1, true}, {5, 1, false}, {3, -1, false}, {4, -1, true}, {5, -1, true}, {4, 0, false},
		{9, 1, false}, {9, -1, false}, {3, math.MaxInt, true}, {5, math.MinInt, true}, {-1, 1, false}, {128, -1, false}, {math.MinInt, 1, false}, {math.MaxInt, -1, false},
	} {
		if got := s.Call(c.floor, c.dir); got != c.want {
			t.Errorf("Call(%d, %d): %v", c.floor, c.dir, got)
		}
	}
}

// P31.1
func TestBeyond(t *testing.T) {
	s := face.Sight{Wants: bits.Of(3, 70), Up: bits.Of(90), Down: bits.Of(1)}
	for _, c := range []struct {
		floor, dir int
		want       bool
	}{
		{-1, 1, true}, {2, 1, true}, {3, 1, true}, {69, 1, true}, {70, 1, false}, {127, 1, false}, {0, -1, false}, {3, -1, false}, {4, -1, true}, {70, -1, true}, {128, -1, true},
		{50, 0, false}, {50, 7, true}, {50, math.MinInt, true}, {math.MaxInt, 1, false}, {math.MinInt, -1, false},
	} {
		if got := s.Beyond(c.floor, c.dir); got != c.want {
			t.Errorf("Beyond(%d, %d): %v", c.floor, c.dir, got)
		}
	}
}

// P31.2: each case that the chapter names, by itself.
func TestOf(t *testing.T) {
	at, above, below := bits.Of(5), bits.Of(8), bits.Of(2)
	all := bits.Of(2, 5, 8)
	for _, c := range []struct {
		name  string
		sight face.Sight
		dir   int
		want  int
	}{
		{"nothing", face.Sight{}, 1, 0},
		{"nothing", face.Sight{}, -1, 0},
		{"nothing", face.Sight{}, 0, 0},
		{"a call for this", face.Sight{Up: at}, 1, 1},
		{"a call for this", face.Sight{Down: at}, -1, -1},
		{"something on", face.Sight{Wants: above}, 1, 1},
		{"something on", face.Sight{Wants: below}, -1, -1},
		{"something on, and a call for the other one", face.Sight{Wants: above, Down: at}, 1, 1},
		{"something on, and a call for the other one", face.Sight{Wants: below, Up: at}, -1, -1},
		{"a call for the other one", face.Sight{Down: at}, 1, -1},
		{"a call for the other one", face.Sight{Up: at}, -1, 1},
		{"something the other way", face.Sight{Wants: below}, 1, -1},
		{"something the other way", face.Sight{Wants: above}, -1, 1},
		{"a want here alone", face.Sight{Wants: at}, 1, 0},
		{"all", face.Sight{Wants: all, Up: at, Down: at}, 1, 1},
		{"all", face.Sight{Wants: all, Up: at, Down: at}, -1, -1},
		{"all", face.Sight{Wants: all, Up: at, Down: at}, 0, 1},
		{"from none: up ahead of down", face.Sight{Wants: below, Up: at, Down: at}, 0, 1},
		{"from none: a call ahead of what lies on", face.Sight{Wants: above, Down: at}, 0, -1},
		{"from none: a call up", face.Sight{Wants: below, Up: at}, 0, 1},
		{"from none: what lies above", face.Sight{Wants: all}, 0, 1},
		{"from none: what lies below", face.Sight{Wants: below}, 0, -1},
	} {
		if got := c.sight.Of(5, c.dir); got != c.want {
			t.Errorf("%s: Of %v in %d: %d; want %d", c.name, c.sight, c.dir, got, c.want)
		}
	}
}

// of is P31.2, word by word.
func of(s face.Sight, floor, dir int) int {
	here := map[int]bool{1: bits.Has(s.Up, floor), -1: bits.Has(s.Down, floor)}
	on := map[int]bool{1: bits.Count(bits.From(s.Wants, floor+1)) > 0, -1: bits.Count(bits.Below(s.Wants, floor)) > 0}
	if dir != 0 {
		if here[dir] || on[dir] {
			return dir
		}
		if here[-dir] || on[-dir] {
			return -dir
		}
		return 0
	}
	if here[1] {
		return 1
	}
	if here[-1] {
		return -1
	}
	if on[1] {
		return 1
	}
	if on[-1] {
		return -1
	}
	return 0
}

// P31.2, P31.3
func TestDrawn(t *testing.T) {
	for seed := range uint64(20000) {
		r := rand.New(rand.NewPCG(seed, 31))
		const floors = 6
		var to []int
		for range r.IntN(3) {
			to = append(to, r.IntN(floors))
		}
		c := car(r.IntN(3)-1, to...)
		s := face.See(c, r.IntN(4), drawn(r, floors), drawn(r, floors))
		floor := r.IntN(floors)
		if got, want := s.Of(floor, c.Dir), of(s, floor, c.Dir); got != want {
			t.Fatalf("Of %v at %d in %d: %d; want %d", s, floor, c.Dir, got, want)
		}
		stops := bits.Has(want.Rides(c), floor)
		switch c.Dir {
		case 0:
			stops = stops || s.Call(floor, 1) || s.Call(floor, -1)
		default:
			stops = stops || s.Call(floor, c.Dir) || s.Call(floor, -c.Dir) && !s.Beyond(floor, c.Dir)
		}
		if got := s.Stop(c, floor); got != stops {
			t.Fatalf("Stop of %v, %v at %d: %v", s, c, floor, got)
		}
	}
}

// P31.3: each case that the chapter names, by itself.
func TestStop(t *testing.T) {
	at, above, below := bits.Of(5), bits.Of(8), bits.Of(2)
	for _, c := range []struct {
		name  string
		sight face.Sight
		car   api.Car
		want  bool
	}{
		{"nothing", face.Sight{}, car(1), false},
		{"a rider out", face.Sight{Wants: above}, car(1, 8, 5), true},
		{"a rider out, of no direction", face.Sight{}, car(0, 5), true},
		{"a want that is no rider's", face.Sight{Wants: at}, car(1, 8), false},
		{"of no direction: up", face.Sight{Up: at}, car(0), true},
		{"of no direction: down", face.Sight{Wants: above, Down: at}, car(0), true},
		{"of no direction: elsewhere", face.Sight{Wants: above, Up: above, Down: below}, car(0), false},
		{"this way", face.Sight{Wants: above, Up: at}, car(1), true},
		{"this way", face.Sight{Wants: below, Down: at}, car(-1), true},
		{"the other way, and more", face.Sight{Wants: above, Down: at}, car(1), false},
		{"the other way, and more", face.Sight{Wants: below, Up: at}, car(-1), false},
		{"the other way, and nothing more", face.Sight{Wants: below, Down: at}, car(1), true},
		{"the other way, and nothing more", face.Sight{Wants: above, Up: at}, car(-1), true},
	} {
		if got := c.sight.Stop(c.car, 5); got != c.want {
			t.Errorf("%s: Stop %v of %v: %v", c.name, c.sight, c.car, got)
		}
	}
}

// P31.3: a full car stops for no call, but where a rider wants out.
func TestFull(t *testing.T) {
	c := car(1, 7, 9)
	s := face.See(c, 2, bits.Of(4), bits.Of(4))
	if s.Stop(c, 4) || !s.Stop(c, 7) || s.Of(4, 1) != 1 || s.Of(9, 1) != -1 {
		t.Error(s)
	}
}

// The chapter's example.
func TestExample(t *testing.T) {
	c := car(1)
	s := face.See(c, 4, api.Set{}, bits.Of(3))
	if s.Of(3, 1) != -1 || !s.Stop(c, 3) {
		t.Error(s)
	}
}

// P1: at any argument all of it ends.
func TestEnds(t *testing.T) {
	full := bits.Range(0, 128)
	for _, a := range []int{math.MinInt, -1, 0, 128, math.MaxInt} {
		for _, b := range []int{math.MinInt, -2, 0, 2, math.MaxInt} {
			s := face.See(car(b, a), a, full, full)
			s.Of(a, b)
			s.Stop(car(b, a), a)
			face.Sight{}.Of(a, b)
		}
	}
}
