package near_test

import (
	"math"
	"slices"
	"testing"

	"hoistway/api"
	"hoistway/near"
)

// P32.1
func TestCost(t *testing.T) {
	s := api.Scenario{Floors: 6, Gap: 3}
	for _, c := range []struct {
		name                 string
		pos, car, floor, dir int
		want                 int
	}{
		{"no direction", 6, 0, 4, 1, 6},
		{"no direction", 6, 0, 4, -1, 6},
		{"no direction, below", 7, 0, 1, 1, 4},
		{"no direction, here", 6, 0, 2, -1, 0},
		{"its way, as it goes", 6, 1, 4, 1, 6},
		{"its way, as it goes", 7, -1, 1, -1, 4},
		{"its way, the other way", 6, 1, 4, -1, 6 + 15},
		{"its way, the other way", 7, -1, 1, 1, 4 + 15},
		{"away", 6, -1, 4, 1, 6 + 30},
		{"away", 6, -1, 4, -1, 6 + 30},
		{"away", 7, 1, 2, 1, 1 + 30},
		{"here, as it goes", 6, 1, 2, 1, 0},
		{"here, as it goes", 6, -1, 2, -1, 0},
		{"here, the other way", 6, 1, 2, -1, 15},
		{"here, the other way", 6, -1, 2, 1, 15},
		{"from end to end", 15, -1, 0, -1, 15},
		{"from end to end, to come back", 0, 1, 5, -1, 30},
	} {
		if got := near.Cost(s, api.Car{Pos: c.pos, Dir: c.car}, c.floor, c.dir); got != c.want {
			t.Errorf("%s: %d; want %d", c.name, got, c.want)
		}
	}
	// The chapter's example.
	if got := near.Cost(api.Scenario{Floors: 4, Gap: 1}, api.Car{Dir: 1}, 2, -1); got != 5 {
		t.Error(got)
	}
}

// P32.1: place by place.
func TestCosts(t *testing.T) {
	for floors := 2; floors <= 5; floors++ {
		for gap := 1; gap <= 3; gap++ {
			s, top := api.Scenario{Floors: floors, Gap: gap}, (floors-1)*gap
			for pos := 0; pos <= top; pos++ {
				for floor := range floors {
					for _, car := range []int{-1, 0, 1} {
						for _, dir := range []int{-1, 1} {
							way := floor*gap - pos
							want := max(way, -way)
							if car != 0 && way*car < 0 {
								want += 2 * top
							} else if car != 0 && dir != car {
								want += top
							}
							if got := near.Cost(s, api.Car{Pos: pos, Dir: car}, floor, dir); got != want {
								t.Fatalf("Cost of %d, %d to %d, %d: %d; want %d", pos, car, floor, dir, got, want)
							}
						}
					}
				}
			}
		}
	}
}

// P32.2
func TestLeast(t *testing.T) {
	for _, c := range []struct {
		l    []int
		want int
	}{
		{nil, -1}, {[]int{}, -1}, {[]int{7}, 0}, {[]int{3, 2, 1}, 2}, {[]int{1, 2, 3}, 0}, {[]int{2, 1, 1, 2}, 1}, {[]int{5, 5}, 0},
		{[]int{0, -1}, 1}, {[]int{math.MaxInt, math.MaxInt}, 0}, {[]int{math.MaxInt, math.MinInt}, 1}, {[]int{math.MinInt, math.MaxInt}, 0},
	} {
		if got := near.Least(c.l...); got != c.want {
			t.Errorf("Least(%v): %d; want %d", c.l, got, c.want)
		}
	}
	l := []int{3, 1, 2}
	near.Least(l...)
	if !slices.Equal(l, []int{3, 1, 2}) {
		t.Error("Least changed its numbers")
	}
}

// P32.2
func TestBest(t *testing.T) {
	s := api.Scenario{Floors: 6, Gap: 3}
	for _, c := range []struct {
		name string
		cars []api.Car
		want int
	}{
		{"none", nil, -1},
		{"one", []api.Car{{Pos: 15}}, 0},
		{"two that are as far", []api.Car{{Pos: 0}, {Pos: 12}}, 0},
		{"the nearer one", []api.Car{{Pos: 0}, {Pos: 9}, {Pos: 15}}, 1},
		{"the nearer one goes away", []api.Car{{Pos: 0}, {Pos: 9, Dir: 1}}, 0},
		{"the nearer one comes, but goes the other way", []api.Car{{Pos: 0}, {Pos: 9, Dir: -1}}, 0},
		{"one that comes, and goes on", []api.Car{{Pos: 15}, {Pos: 0, Dir: 1}}, 1},
	} {
		if got := near.Best(s, c.cars, 2, 1); got != c.want {
			t.Errorf("%s: %d; want %d", c.name, got, c.want)
		}
	}
}

// P1: at any argument all of it ends.
func TestEnds(t *testing.T) {
	for _, a := range []int{math.MinInt, -1, 0, math.MaxInt} {
		for _, b := range []int{math.MinInt, -2, 0, math.MaxInt} {
			s, c := api.Scenario{Floors: a, Gap: b}, api.Car{Pos: b, Dir: a}
			near.Cost(s, c, a, b)
			near.Best(s, []api.Car{c, c}, b, a)
		}
	}
}
