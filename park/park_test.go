package park_test

import (
	"math"
	"math/rand/v2"
	"slices"
	"testing"

	"hoistway/api"
	"hoistway/park"
)

// plainCost: by the document's words.
func plainCost(l []int, at []int) int {
	sum := 0
	for floor, weight := range l {
		far := math.MaxInt
		for _, other := range at {
			far = min(far, max(floor-other, other-floor))
		}
		sum += weight * far
	}
	return sum
}

// P61.1
func TestCost(t *testing.T) {
	if park.Most != 1048576 {
		t.Error(park.Most)
	}
	for _, c := range []struct {
		l    []int
		at   []int
		want int
	}{
		{[]int{1, 0, 0, 1}, []int{0, 3}, 0}, {[]int{1, 0, 0, 1}, []int{0}, 3}, {[]int{1, 2, 3, 4}, []int{1}, 12}, {[]int{1, 2, 3, 4}, []int{3, 0, 3}, 5}, {[]int{5}, []int{0}, 0}, {[]int{5}, []int{0, 0, 0}, 0}, {[]int{0, 0}, []int{1}, 0}, {[]int{2, 9}, []int{1, 1}, 2},
		{slices.Repeat([]int{park.Most}, 128), []int{0}, 128 * 127 / 2 * park.Most}, {slices.Repeat([]int{1}, 128), []int{127, 0}, 2 * 63 * 64 / 2},
	} {
		if got, e := park.Cost(c.l, c.at...); got != c.want || e != api.OK {
			t.Errorf("Cost(%v, %v): %d, %d; want %d", c.l, c.at, got, int(e), c.want)
		}
	}
	for seed := range uint64(2000) {
		r := rand.New(rand.NewPCG(seed, 61))
		l := some(r, 1+r.IntN(20))
		var at []int
		for range 1 + r.IntN(6) {
			at = append(at, r.IntN(len(l)))
		}
		was := slices.Clone(at)
		if got, e := park.Cost(l, at...); got != plainCost(l, at) || e != api.OK || !slices.Equal(at, was) {
			t.Fatalf("Cost(%v, %v): %d, %d; want %d", l, was, got, int(e), plainCost(l, was))
		}
	}
	// However often a floor is told.
	if got, e := park.Cost(slices.Repeat([]int{1}, 128), slices.Repeat([]int{0, 127}, 1<<20)...); got != 2*63*64/2 || e != api.OK {
		t.Error(got, int(e))
	}
}

func some(r *rand.Rand, n int) []int {
	l := make([]int, n)
	most := []int{1, 2, 6, 100, park.Most}[r.IntN(5)]
	for i := range l {
		l[i] = r.IntN(most + 1)
	}
	return l
}

// P61.1, P61.2
func TestWrong(t *testing.T) {
	long := make([]int, 129)
	for _, l := range [][]int{nil, {}, long, {-1}, {1, -1, 1}, {park.Most + 1}, {1, 2, math.MaxInt}, {math.MinInt}} {
		if got, e := park.Cost(l, 0); got != 0 || e != api.ErrArg {
			t.Errorf("Cost(%v): %d, %d", l, got, int(e))
		}
		for _, k := range []int{1, 2, 0, math.MaxInt} {
			if at, got, e := park.Best(l, k); len(at) != 0 || got != 0 || e != api.ErrArg {
				t.Errorf("Best(%v, %d): %v, %d, %d", l, k, at, got, int(e))
			}
		}
	}
	for _, at := range [][]int{nil, {}, {3}, {-1}, {0, 1, 3}, {math.MinInt, 0}, {0, math.MaxInt}, {-1, 3}} {
		if got, e := park.Cost([]int{1, 2, 3}, at...); got != 0 || e != api.ErrArg {
			t.Errorf("Cost at %v: %d, %d", at, got, int(e))
		}
	}
	for _, k := range []int{0, -1, math.MinInt} {
		if at, got, e := park.Best([]int{1, 2, 3}, k); len(at) != 0 || got != 0 || e != api.ErrArg {
			t.Errorf("Best of %d: %v, %d, %d", k, at, got, int(e))
		}
	}
	if got, e := park.Cost(long[:128], 127); got != 0 || e != api.OK {
		t.Error(got, int(e))
	}
}

// plainBest: the least cost of at most k floors, all tried.
func plainBest(l []int, k int) int {
	best := math.MaxInt
	for some := 1; some < 1<<len(l); some++ {
		var at []int
		for floor := range l {
			if some>>floor&1 == 1 {
				at = append(at, floor)
			}
		}
		if len(at) <= k {
			best = min(best, plainCost(l, at))
		}
	}
	return best
}

// held: are these floors that may be, and do they cost so much?
func held(t *testing.T, l []int, k, want int) {
	t.Helper()
	at, got, e := park.Best(l, k)
	if e != api.OK || got != want || len(at) == 0 || len(at) > k || at[0] < 0 || at[len(at)-1] >= len(l) || plainCost(l, at) != want {
		t.Fatalf("Best(%v, %d): %v, %d, %d; want %d", l, k, at, got, int(e), want)
	}
	for i, floor := range at[1:] {
		if floor <= at[i] {
			t.Fatalf("Best(%v, %d): %v, not rising", l, k, at)
		}
	}
}

// P61.2
func TestBest(t *testing.T) {
	for _, c := range []struct {
		l    []int
		k    int
		at   []int
		want int
	}{
		{[]int{1, 0, 0, 1}, 2, []int{0, 3}, 0}, {[]int{5}, 1, []int{0}, 0}, {[]int{1, 5, 1}, 1, []int{1}, 2}, {[]int{1, 1, 9, 1}, 1, []int{2}, 4}, {[]int{7, 1, 1, 7}, 2, []int{0, 3}, 2}, {[]int{2, 3, 4}, 3, []int{0, 1, 2}, 0}, {[]int{2, 3, 4}, math.MaxInt, []int{0, 1, 2}, 0}, {[]int{9, 1, 0, 0, 0, 0, 1, 9, 0, 0, 0, 5}, 3, []int{0, 7, 11}, 2},
	} {
		held(t, c.l, c.k, c.want)
		if at, _, _ := park.Best(c.l, c.k); !slices.Equal(at, c.at) {
			t.Errorf("Best(%v, %d): %v; want %v", c.l, c.k, at, c.at)
		}
	}
	for seed := range uint64(1500) {
		r := rand.New(rand.NewPCG(seed, 612))
		l := some(r, 1+r.IntN(9))
		k := 1 + r.IntN(len(l)+2)
		held(t, l, k, plainBest(l, k))
	}
}

// walk: the least cost of at most k floors, floor by floor, by where the last one was, ahead of that which comes.
func walk(l []int, k int) int {
	far := func(begin, end int) int {
		sum := 0
		for floor := begin + 1; floor < end; floor++ {
			sum += l[floor] * min(floor-begin, end-floor)
		}
		return sum
	}
	last := make([]int, len(l))
	best := math.MaxInt
	for many := range min(k, len(l)) {
		next := make([]int, len(l))
		for at := range l {
			next[at] = math.MaxInt
			if many == 0 {
				next[at] = 0
				for floor := range at {
					next[at] += l[floor] * (at - floor)
				}
			}
			for ahead := many - 1; many > 0 && ahead < at; ahead++ {
				if ahead >= 0 && last[ahead] < math.MaxInt {
					next[at] = min(next[at], last[ahead]+far(ahead, at))
				}
			}
			if next[at] < math.MaxInt {
				rest := 0
				for floor := at + 1; floor < len(l); floor++ {
					rest += l[floor] * (floor - at)
				}
				best = min(best, next[at]+rest)
			}
		}
		last = next
	}
	return best
}

// P61.2: of many floors.
func TestMany(t *testing.T) {
	for seed := range uint64(12) {
		r := rand.New(rand.NewPCG(seed, 613))
		l := some(r, 100+r.IntN(29))
		k := []int{1, 2, 3, 8, 64}[seed%5]
		held(t, l, k, walk(l, k))
	}
	held(t, slices.Repeat([]int{park.Most}, 128), 1, 128/2*128/2*park.Most)
	held(t, slices.Repeat([]int{park.Most}, 128), 127, park.Most)
	held(t, slices.Repeat([]int{park.Most}, 128), 128, 0)
	held(t, make([]int, 128), 5, 0)
}
