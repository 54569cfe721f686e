package sector_test

import (
	"math"
	"testing"

	"hoistway/sector"
)

// P33.1: all floors, and cars, that there may be.
func TestAll(t *testing.T) {
	for floors := 1; floors <= 128; floors++ {
		for cars := 1; cars <= 128; cars++ {
			next := 0
			for car := range cars {
				from, to := sector.Span(floors, cars, car)
				if from != next || to < from {
					t.Fatalf("Span(%d, %d, %d): %d, %d; want %d on", floors, cars, car, from, to, next)
				}
				for floor := from; floor < to; floor++ {
					if got := sector.Car(floors, cars, floor); got != car {
						t.Fatalf("Car(%d, %d, %d): %d; want %d", floors, cars, floor, got, car)
					}
				}
				if got := sector.Home(floors, cars, car); got != min(from, floors-1) {
					t.Fatalf("Home(%d, %d, %d): %d", floors, cars, car, got)
				}
				next = to
			}
			if next != floors {
				t.Fatalf("%d floors, %d cars: the last one ends at %d", floors, cars, next)
			}
		}
	}
}

// P33.1
func TestCar(t *testing.T) {
	for _, c := range []struct{ floors, cars, floor, want int }{
		{10, 3, 0, 0}, {10, 3, 3, 0}, {10, 3, 4, 1}, {10, 3, 6, 1}, {10, 3, 7, 2}, {10, 3, 9, 2}, {4, 2, 3, 1}, {2, 4, 0, 0}, {2, 4, 1, 2}, {1, 128, 0, 0}, {128, 1, 127, 0}, {128, 128, 77, 77}, {128, 127, 127, 126},
	} {
		if got := sector.Car(c.floors, c.cars, c.floor); got != c.want {
			t.Errorf("Car(%d, %d, %d): %d; want %d", c.floors, c.cars, c.floor, got, c.want)
		}
	}
}

// P33.1: cars without a floor, too.
func TestSpan(t *testing.T) {
	for _, c := range []struct{ floors, cars, car, from, to, home int }{
		{10, 3, 0, 0, 4, 0}, {10, 3, 1, 4, 7, 4}, {10, 3, 2, 7, 10, 7}, {2, 4, 0, 0, 1, 0}, {2, 4, 1, 1, 1, 1}, {2, 4, 2, 1, 2, 1}, {2, 4, 3, 2, 2, 1}, {1, 3, 2, 1, 1, 0}, {128, 1, 0, 0, 128, 0}, {128, 16, 15, 120, 128, 120},
	} {
		if from, to := sector.Span(c.floors, c.cars, c.car); from != c.from || to != c.to {
			t.Errorf("Span(%d, %d, %d): %d, %d; want %d, %d", c.floors, c.cars, c.car, from, to, c.from, c.to)
		}
		if got := sector.Home(c.floors, c.cars, c.car); got != c.home {
			t.Errorf("Home(%d, %d, %d): %d; want %d", c.floors, c.cars, c.car, got, c.home)
		}
	}
}

// P1: at any argument all of it ends.
func TestEnds(t *testing.T) {
	numbers := []int{math.MinInt, -1, 0, 1, math.MaxInt}
	for _, a := range numbers {
		for _, b := range numbers {
			for _, c := range numbers {
				sector.Car(a, b, c)
				sector.Span(a, b, c)
				sector.Home(a, b, c)
			}
		}
	}
}
