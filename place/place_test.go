package place_test

import (
	"math"
	"testing"

	"hoistway/place"
)

// most is how great floors, gaps and places are at most.
const most = 1 << 20

// P17.1
func TestRight(t *testing.T) {
	for floors := -3; floors <= 300; floors++ {
		for gap := -3; gap <= 40; gap++ {
			if got := place.Right(floors, gap); got != (floors >= 2 && floors <= 128 && gap >= 1 && gap <= 16) {
				t.Errorf("Right(%d, %d): %v", floors, gap, got)
			}
		}
	}
	for _, n := range []int{0, most, 1<<32 + 2, math.MaxInt, math.MinInt} {
		if place.Right(n, 1) || place.Right(10, n) || place.Right(n, n) {
			t.Errorf("Right with %d: true", n)
		}
	}
}

// P17.1
func TestAtTop(t *testing.T) {
	for _, c := range []struct{ floor, gap, at int }{{0, 1, 0}, {0, 16, 0}, {1, 3, 3}, {2, 3, 6}, {127, 16, 2032}, {127, 1, 127}, {most, 1, most}, {most, most, 1 << 40}, {1, most, most}} {
		if got := place.At(c.floor, c.gap); got != c.at {
			t.Errorf("At(%d, %d): %d", c.floor, c.gap, got)
		}
		if got := place.Top(c.floor+1, c.gap); got != c.at {
			t.Errorf("Top(%d, %d): %d", c.floor+1, c.gap, got)
		}
	}
}

// P17.1
func TestFloor(t *testing.T) {
	for gap := 1; gap <= 20; gap++ {
		for pos := range 400 {
			floor := 0
			for (floor+1)*gap <= pos {
				floor++
			}
			if got, at := place.Floor(pos, gap); got != floor || at != (floor*gap == pos) {
				t.Errorf("Floor(%d, %d): %d, %v", pos, gap, got, at)
			}
		}
	}
	for _, c := range []struct {
		pos, gap, floor int
		at              bool
	}{{most, 1, most, true}, {most, most, 1, true}, {most - 1, most, 0, false}, {0, most, 0, true}, {most, 3, 349525, false}, {most - 1, 3, 349525, true}} {
		if got, at := place.Floor(c.pos, c.gap); got != c.floor || at != c.at {
			t.Errorf("Floor(%d, %d): %d, %v", c.pos, c.gap, got, at)
		}
	}
}

// P17.1
func TestSignDirFar(t *testing.T) {
	for n, want := range map[int]int{0: 0, 1: 1, -1: -1, 2: 1, -2: -1, most: 1, -most: -1, math.MaxInt: 1, math.MinInt: -1, 1 << 32: 1, -1 << 32: -1} {
		if got := place.Sign(n); got != want {
			t.Errorf("Sign(%d): %d", n, got)
		}
	}
	for _, c := range []struct{ a, b, dir, far int }{{0, 0, 0, 0}, {0, 1, 1, 1}, {1, 0, -1, 1}, {3, 9, 1, 6}, {9, 3, -1, 6}, {127, 127, 0, 0}, {0, most, 1, most}, {most, 0, -1, most}, {most, most, 0, 0}, {most - 1, most, 1, 1}} {
		if got := place.Dir(c.a, c.b); got != c.dir {
			t.Errorf("Dir(%d, %d): %d", c.a, c.b, got)
		}
		if got := place.Far(c.a, c.b); got != c.far {
			t.Errorf("Far(%d, %d): %d", c.a, c.b, got)
		}
	}
}

// P17.1
func TestNext(t *testing.T) {
	for _, c := range []struct{ pos, gap, dir, far, floor int }{
		{7, 3, 1, 2, 3}, {7, 3, -1, 1, 2}, {7, 3, 0, 1, 2}, {6, 3, 1, 0, 2}, {6, 3, -1, 0, 2}, {6, 3, 0, 0, 2}, {0, 3, 1, 0, 0}, {0, 3, -1, 0, 0}, {1, 3, -1, 1, 0}, {1, 3, 1, 2, 1}, {8, 3, 1, 1, 3}, {8, 3, -5, 2, 2}, {8, 3, 5, 1, 3},
		{most - 1, most, 1, 1, 1}, {most - 1, most, -1, most - 1, 0}, {most, most, 1, 0, 1}, {1, 16, math.MaxInt, 15, 1}, {1, 16, math.MinInt, 1, 0}, {most, 1, 1, 0, most},
	} {
		if far, floor := place.Next(c.pos, c.gap, c.dir); far != c.far || floor != c.floor {
			t.Errorf("Next(%d, %d, %d): %d, %d; want %d, %d", c.pos, c.gap, c.dir, far, floor, c.far, c.floor)
		}
	}
	// As a car goes, place by place, till it is at a floor.
	for gap := 1; gap <= 16; gap++ {
		for pos := range 100 {
			for _, dir := range []int{-2, -1, 0, 1, 2} {
				step, at, ticks := -1, pos, 0
				if dir > 0 {
					step = 1
				}
				for at%gap != 0 {
					at += step
					ticks++
				}
				if far, floor := place.Next(pos, gap, dir); far != ticks || floor != at/gap {
					t.Errorf("Next(%d, %d, %d): %d, %d; want %d, %d", pos, gap, dir, far, floor, ticks, at/gap)
				}
			}
		}
	}
}

// P1: of other numbers nothing is promised but that all ends.
func TestWrong(t *testing.T) {
	l := []int{math.MinInt, math.MinInt + 1, -most, -3, -1, 0, 1, most + 1, math.MaxInt - 1, math.MaxInt}
	for _, a := range l {
		for _, b := range l {
			place.Right(a, b)
			place.At(a, b)
			place.Floor(a, b)
			place.Top(a, b)
			place.Dir(a, b)
			place.Far(a, b)
			for _, dir := range l {
				place.Next(a, b, dir)
			}
		}
	}
}
