package prob_test

import (
	"math"
	"math/big"
	"testing"

	"hoistway/api"
	"hoistway/prob"
)

const one = 1 << 32

// times: by the document's words.
func times(a, b uint64) uint64 {
	n := new(big.Int).Mul(new(big.Int).SetUint64(a), new(big.Int).SetUint64(b))
	n.Rsh(n, 32)
	return n.Mod(n, new(big.Int).Lsh(big.NewInt(1), 64)).Uint64()
}

func power(a uint64, n int) uint64 {
	p := uint64(one)
	for i := 0; i < n && i < 1000; i++ {
		p = times(p, min(a, one))
	}
	return p
}

func parts() []uint64 {
	return []uint64{0, 1, 2, 3, 1 << 16, 1<<16 + 1, 1 << 31, 1<<31 + 1, 12345678901, one - 2, one - 1, one, one + 1, 3 * one, 1 << 48, 1<<63 - 1, 1 << 63, 1<<63 + 12345, math.MaxUint64 - 1, math.MaxUint64}
}

// P56.1
func TestTimes(t *testing.T) {
	if prob.One != 4294967296 {
		t.Error(uint64(prob.One))
	}
	for _, c := range []struct{ a, b, want uint64 }{
		{one, one, one}, {1 << 31, 1 << 31, 1 << 30}, {1, 1, 0}, {1 << 16, 1 << 16, 1}, {1<<16 - 1, 1 << 16, 0}, {one - 1, one - 1, one - 2}, {0, math.MaxUint64, 0}, {one, math.MaxUint64, math.MaxUint64}, {2 * one, 1 << 63, 0}, {3 * one, 1<<63 + 1, 1<<63 + 3}, {1 << 63, 1 << 33, 0}, {math.MaxUint64, math.MaxUint64, math.MaxUint64 - 2*one + 1},
	} {
		if got := prob.Times(c.a, c.b); got != c.want {
			t.Errorf("Times(%d, %d): %d; want %d", c.a, c.b, got, c.want)
		}
	}
	for _, a := range parts() {
		for _, b := range parts() {
			if got := prob.Times(a, b); got != times(a, b) {
				t.Errorf("Times(%d, %d): %d; want %d", a, b, got, times(a, b))
			}
		}
	}
}

// P56.1
func TestPower(t *testing.T) {
	for _, c := range []struct {
		a    uint64
		n    int
		want uint64
	}{
		{1 << 31, 1, 1 << 31}, {1 << 31, 2, 1 << 30}, {1 << 31, 32, 1}, {1 << 31, 33, 0}, {1 << 31, 0, one}, {1 << 31, -1, one}, {0, 0, one}, {0, 1, 0}, {0, math.MinInt, one}, {one, 1000, one}, {one + 1, 5, one}, {math.MaxUint64, 1000, one}, {math.MaxUint64, math.MaxInt, one},
		// Rounded down each time: 1 is lost at each.
		{one - 1, 1, one - 1}, {one - 1, 2, one - 2}, {one - 1, 10, one - 10}, {one - 1, 999, one - 999}, {one - 1, 1000, one - 1000}, {one - 1, 1001, one - 1000}, {one - 1, math.MaxInt, one - 1000},
	} {
		if got := prob.Power(c.a, c.n); got != c.want {
			t.Errorf("Power(%d, %d): %d; want %d", c.a, c.n, got, c.want)
		}
	}
	for _, a := range parts() {
		for _, n := range []int{math.MinInt, -1, 0, 1, 2, 3, 7, 64, 999, 1000, 1001, 1 << 32, math.MaxInt} {
			if got := prob.Power(a, n); got != power(a, n) {
				t.Errorf("Power(%d, %d): %d; want %d", a, n, got, power(a, n))
			}
		}
	}
}

// P56.1
func TestPart(t *testing.T) {
	for _, c := range []struct {
		n, of int
		want  uint64
		e     api.Errno
	}{
		{0, 1, 0, api.OK}, {1, 1, one, api.OK}, {1, 2, 1 << 31, api.OK}, {1, 3, 1431655765, api.OK}, {2, 3, 2863311530, api.OK}, {127, 127, one, api.OK}, {1 << 30, 1 << 30, one, api.OK}, {1<<30 - 1, 1 << 30, one - 4, api.OK}, {1, 1 << 30, 4, api.OK}, {1, 1<<30 - 1, 4, api.OK}, {0, 1 << 30, 0, api.OK},
		{0, 0, 0, api.ErrZero}, {-1, 0, 0, api.ErrZero}, {5, 0, 0, api.ErrZero}, {math.MinInt, 0, 0, api.ErrZero},
		{-1, 5, 0, api.ErrArg}, {6, 5, 0, api.ErrArg}, {math.MinInt, 1, 0, api.ErrArg}, {math.MaxInt, 1, 0, api.ErrArg}, {0, -1, 0, api.ErrArg}, {-1, -1, 0, api.ErrArg}, {-2, -1, 0, api.ErrArg}, {0, math.MinInt, 0, api.ErrArg}, {0, 1<<30 + 1, 0, api.ErrArg}, {1, 1 << 32, 0, api.ErrArg}, {math.MaxInt, math.MaxInt, 0, api.ErrArg},
	} {
		if got, e := prob.Part(c.n, c.of); got != c.want || e != c.e {
			t.Errorf("Part(%d, %d): %d, %d; want %d, %d", c.n, c.of, got, int(e), c.want, int(c.e))
		}
	}
}

// part: by the document's words (of what may be).
func part(n, of int) uint64 { return uint64(n) * one / uint64(of) }

func stops(floors, people int) uint64 {
	return uint64(floors) * (one - power(part(floors-1, floors), people))
}

func high(floors, people int) uint64 {
	if people == 0 {
		return 0
	}
	n := uint64(floors) * one
	for i := 1; i <= floors-1; i++ {
		n -= power(part(i, floors), people)
	}
	return n
}

// P56.2
func TestStopsHigh(t *testing.T) {
	for _, c := range []struct {
		floors, people int
		stops, high    uint64
	}{
		{1, 1, one, one}, {1, 0, 0, 0}, {1, 64, one, one}, {127, 0, 0, 0}, {2, 1, one, one + one/2}, {2, 2, one + one/2, one + one*3/4}, {4, 1, one, 5 * one / 2}, {8, 1, one, 9 * one / 2},
	} {
		if got, e := prob.Stops(c.floors, c.people); got != c.stops || e != api.OK {
			t.Errorf("Stops(%d, %d): %d, %d; want %d", c.floors, c.people, got, int(e), c.stops)
		}
		if got, e := prob.High(c.floors, c.people); got != c.high || e != api.OK {
			t.Errorf("High(%d, %d): %d, %d; want %d", c.floors, c.people, got, int(e), c.high)
		}
	}
	for _, floors := range []int{1, 2, 3, 5, 10, 126, 127} {
		for _, people := range []int{0, 1, 2, 3, 10, 63, 64} {
			if got, e := prob.Stops(floors, people); got != stops(floors, people) || e != api.OK {
				t.Errorf("Stops(%d, %d): %d, %d; want %d", floors, people, got, int(e), stops(floors, people))
			}
			if got, e := prob.High(floors, people); got != high(floors, people) || e != api.OK {
				t.Errorf("High(%d, %d): %d, %d; want %d", floors, people, got, int(e), high(floors, people))
			}
		}
	}
	for _, floors := range []int{math.MinInt, -1, 0, 1, 127, 128, math.MaxInt} {
		for _, people := range []int{math.MinInt, -1, 0, 64, 65, math.MaxInt} {
			if floors >= 1 && floors <= 127 && people >= 0 && people <= 64 {
				continue
			}
			if got, e := prob.Stops(floors, people); got != 0 || e != api.ErrArg {
				t.Errorf("Stops(%d, %d): %d, %d", floors, people, got, int(e))
			}
			if got, e := prob.High(floors, people); got != 0 || e != api.ErrArg {
				t.Errorf("High(%d, %d): %d, %d", floors, people, got, int(e))
			}
		}
	}
}

// scene: a scenario as far as Round asks it.
func scene(floors, gap, open, dwell, closing, transfer int) api.Scenario {
	return api.Scenario{Floors: floors, Gap: gap, Open: open, Dwell: dwell, Close: closing, Transfer: transfer}
}

// round: by the document's words.
func round(s api.Scenario, people int) int {
	door := max(0, s.Open) + max(0, s.Dwell) + max(0, s.Close)
	sum := new(big.Int).SetUint64(high(s.Floors-1, people))
	sum.Mul(sum, big.NewInt(int64(2*s.Gap)))
	doors := new(big.Int).SetUint64(stops(s.Floors-1, people))
	sum.Add(sum, doors.Mul(doors, big.NewInt(int64(door))))
	whole, rest := sum.DivMod(sum, big.NewInt(one), new(big.Int))
	n := int(whole.Int64())
	if rest.Sign() > 0 {
		n++
	}
	return n + door + 2*people*s.Transfer
}

// P56.2
func TestRound(t *testing.T) {
	for _, c := range []struct {
		s            api.Scenario
		people, want int
	}{
		{scene(2, 3, 1, 2, 4, 5), 1, 6 + 7 + 7 + 10}, {scene(2, 3, 1, 2, 4, 5), 0, 7}, {scene(2, 16, 64, 64, 64, 64), 64, 32 + 192 + 192 + 8192}, {scene(5, 2, 1, 1, 1, 1), 1, 10 + 3 + 3 + 2}, {scene(3, 1, 1, 0, 0, 0), 1, 3 + 1 + 1}, {scene(3, 1, 1, 0, 0, 0), 2, 5 + 1},
		// What is below 0 of a door's time is none.
		{scene(2, 3, -1, 2, 4, 5), 1, 6 + 6 + 6 + 10}, {scene(2, 3, math.MinInt, math.MinInt, math.MinInt, 0), 1, 6}, {scene(2, 0, 192, -5, math.MinInt, 0), 1, 384}, {scene(2, 0, 0, 0, 192, 0), 1, 384}, {scene(2, 0, 0, 192, 0, 0), 0, 192}, {scene(2, 0, 0, 0, 0, 0), 0, 0},
	} {
		if got, e := prob.Round(c.s, c.people); got != c.want || e != api.OK {
			t.Errorf("Round(%v, %d): %d, %d; want %d", c.s, c.people, got, int(e), c.want)
		}
	}
	for _, floors := range []int{2, 3, 10, 127, 128} {
		for _, people := range []int{0, 1, 5, 33, 64} {
			for _, n := range []int{0, 1, 7, 16} {
				s := scene(floors, n, 3*n, n, 64-n, 4*n)
				if got, e := prob.Round(s, people); got != round(s, people) || e != api.OK {
					t.Errorf("Round(%v, %d): %d, %d; want %d", s, people, got, int(e), round(s, people))
				}
			}
		}
	}
}

// P56.2: other numbers of a scenario don't count.
func TestRoundOthers(t *testing.T) {
	a := scene(10, 3, 2, 4, 2, 1)
	b := a
	b.Cars, b.Capacity, b.Horizon, b.Dispatcher, b.Segments = 99, -1, -1, 9, []api.Segment{{Kind: 7}}
	x, _ := prob.Round(a, 8)
	if y, e := prob.Round(b, 8); x != y || e != api.OK {
		t.Errorf("Round: %d, %d, %d", x, y, int(e))
	}
}

// P56.2
func TestRoundWrong(t *testing.T) {
	most := math.MaxInt
	for _, c := range []struct {
		s      api.Scenario
		people int
	}{
		{scene(1, 3, 1, 2, 4, 5), 1}, {scene(0, 3, 1, 2, 4, 5), 1}, {scene(129, 3, 1, 2, 4, 5), 1}, {scene(math.MinInt, 3, 1, 2, 4, 5), 1}, {scene(most, 3, 1, 2, 4, 5), 1}, {api.Scenario{}, 0},
		{scene(2, 3, 1, 2, 4, 5), -1}, {scene(2, 3, 1, 2, 4, 5), 65}, {scene(2, 3, 1, 2, 4, 5), most}, {scene(2, 3, 1, 2, 4, 5), math.MinInt},
		{scene(2, 17, 1, 2, 4, 5), 1}, {scene(2, -1, 1, 2, 4, 5), 1}, {scene(2, most, 1, 2, 4, 5), 0}, {scene(2, math.MinInt, 1, 2, 4, 5), 0},
		{scene(2, 3, 1, 2, 4, 65), 1}, {scene(2, 3, 1, 2, 4, -1), 1}, {scene(2, 3, 1, 2, 4, most), 0}, {scene(2, 3, 1, 2, 4, math.MinInt), 0},
		{scene(2, 3, 193, 0, 0, 5), 1}, {scene(2, 3, 0, 193, 0, 5), 1}, {scene(2, 3, 0, 0, 193, 5), 1}, {scene(2, 3, 64, 64, 65, 5), 1}, {scene(2, 3, 193, -1, -1, 5), 1}, {scene(2, 3, 193, math.MinInt, math.MinInt, 5), 0},
		// The sums of these go round.
		{scene(2, 3, most, most, 2, 5), 1}, {scene(2, 3, most, 1, 0, 5), 1}, {scene(2, 3, most, most, most, 5), 1}, {scene(2, 3, 1, most, most, 5), 0},
	} {
		if got, e := prob.Round(c.s, c.people); got != 0 || e != api.ErrArg {
			t.Errorf("Round(%v, %d): %d, %d", c.s, c.people, got, int(e))
		}
	}
}
