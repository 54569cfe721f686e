package want_test

import (
	"math"
	"math/rand/v2"
	"slices"
	"testing"

	"hoistway/api"
	"hoistway/bits"
	"hoistway/want"
)

func car(to ...int) api.Car {
	var c api.Car
	for i, floor := range to {
		c.Riders = append(c.Riders, api.Rider{Id: i, To: floor})
	}
	return c
}

// P30.1
func TestRides(t *testing.T) {
	for _, c := range []struct {
		car  api.Car
		want api.Set
	}{
		{car(), bits.Of()}, {car(0), bits.Of(0)}, {car(5, 2, 5, 127), bits.Of(2, 5, 127)}, {car(63, 64), bits.Of(63, 64)}, {car(-1, 128, 3, math.MinInt, math.MaxInt), bits.Of(3)},
	} {
		if got := want.Rides(c.car); got != c.want {
			t.Errorf("Rides(%v): %v; want %v", c.car, got, c.want)
		}
	}
}

// P30.1
func TestFull(t *testing.T) {
	up, down := bits.Of(1, 70), bits.Of(2, 70, 127)
	for riders := range 5 {
		c := car(slices.Repeat([]int{9}, riders)...)
		for _, capacity := range []int{math.MinInt, -1, 0, 1, 2, 3, 4, 5, math.MaxInt} {
			full := riders >= capacity
			if got := want.Full(c, capacity); got != full {
				t.Errorf("Full of %d, %d: %v", riders, capacity, got)
			}
			lands, of := up, bits.Of(1, 2, 70, 127)
			if full {
				lands, of = bits.Of(), bits.Of()
			}
			if riders > 0 {
				of = bits.With(of, 9)
			}
			if got := want.Lands(c, capacity, up); got != lands {
				t.Errorf("Lands of %d, %d: %v; want %v", riders, capacity, got, lands)
			}
			if got := want.Of(c, capacity, up, down); got != of {
				t.Errorf("Of of %d, %d: %v; want %v", riders, capacity, got, of)
			}
		}
	}
}

// P30.2
func TestExamples(t *testing.T) {
	s := bits.Of(2, 5, 9)
	for _, c := range []struct {
		floor, dir, near, last int
		ok                     bool
	}{
		{5, 1, 9, 9, true}, {5, -1, 2, 2, true}, {5, 0, 0, 0, false}, {-1, 1, 2, 9, true}, {128, -1, 9, 2, true}, {9, 1, 0, 0, false}, {2, -1, 0, 0, false}, {3, 1, 5, 9, true}, {8, -1, 5, 2, true}, {1, 7, 2, 9, true}, {10, math.MinInt, 9, 2, true}, {128, 1, 0, 0, false}, {-1, -1, 0, 0, false},
	} {
		if floor, ok := want.Nearest(s, c.floor, c.dir); floor != c.near || ok != c.ok {
			t.Errorf("Nearest(%d, %d): %d, %v; want %d", c.floor, c.dir, floor, ok, c.near)
		}
		if floor, ok := want.Last(s, c.floor, c.dir); floor != c.last || ok != c.ok {
			t.Errorf("Last(%d, %d): %d, %v; want %d", c.floor, c.dir, floor, ok, c.last)
		}
	}
	for _, c := range []struct{ a, b, n int }{{2, 9, 1}, {9, 2, 1}, {1, 10, 3}, {10, 1, 3}, {5, 5, 0}, {2, 5, 0}, {4, 6, 1}, {-1, 128, 3}, {128, -1, 3}, {-1, 2, 0}, {9, 128, 0}} {
		if n := want.Between(s, c.a, c.b); n != c.n {
			t.Errorf("Between(%d, %d): %d; want %d", c.a, c.b, n, c.n)
		}
	}
}

// P30.2: floor by floor, of sets of few and of many.
func TestBeyond(t *testing.T) {
	for seed := range uint64(300) {
		r := rand.New(rand.NewPCG(seed, 30))
		var s api.Set
		for range r.IntN(1 << (seed % 8)) {
			s = bits.With(s, r.IntN(128))
		}
		for floor := -1; floor <= 128; floor++ {
			for _, dir := range []int{-1, 0, 1, math.MinInt, math.MaxInt} {
				var l []int
				for n := range 128 {
					if bits.Has(s, n) && (dir > 0 && n > floor || dir < 0 && n < floor) {
						l = append(l, n)
					}
				}
				if got := want.Beyond(s, floor, dir); got != bits.Of(l...) {
					t.Fatalf("Beyond(%v, %d, %d): %v; want %v", s, floor, dir, got, l)
				}
				near, last := 0, 0
				if dir < 0 {
					slices.Reverse(l)
				}
				if len(l) > 0 {
					near, last = l[0], l[len(l)-1]
				}
				if got, ok := want.Nearest(s, floor, dir); got != near || ok != (len(l) > 0) {
					t.Fatalf("Nearest(%v, %d, %d): %d, %v; want %d", s, floor, dir, got, ok, near)
				}
				if got, ok := want.Last(s, floor, dir); got != last || ok != (len(l) > 0) {
					t.Fatalf("Last(%v, %d, %d): %d, %v; want %d", s, floor, dir, got, ok, last)
				}
			}
			other, n := r.IntN(130)-1, 0
			for k := min(floor, other) + 1; k < max(floor, other); k++ {
				if bits.Has(s, k) {
					n++
				}
			}
			if got := want.Between(s, floor, other); got != n {
				t.Fatalf("Between(%v, %d, %d): %d; want %d", s, floor, other, got, n)
			}
		}
	}
}

// P1: at any argument all of it ends.
func TestEnds(t *testing.T) {
	full := bits.Range(0, 128)
	for _, a := range []int{math.MinInt, -2, 129, math.MaxInt} {
		for _, b := range []int{math.MinInt, math.MaxInt, 0} {
			want.Beyond(full, a, b)
			want.Nearest(full, a, b)
			want.Last(full, a, b)
			want.Between(full, a, b)
		}
	}
}
