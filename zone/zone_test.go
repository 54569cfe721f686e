package zone_test

import (
	"math"
	"math/rand/v2"
	"slices"
	"testing"

	"hoistway/api"
	"hoistway/zone"
)

// plainLeast: the least that the heaviest zone weighs, all cuts tried.
func plainLeast(l []int, k int) int {
	best := 0
	for _, n := range l {
		best += n
	}
	if k == 1 {
		return best
	}
	first := 0
	for i := 1; i < len(l); i++ {
		first += l[i-1]
		best = min(best, max(first, plainLeast(l[i:], k-1)))
	}
	return best
}

// plainCut: zones that each have as many floors as they may without weighing more.
func plainCut(l []int, least int) []api.Span {
	var zones []api.Span
	for at := 0; at < len(l); {
		end, sum := at, 0
		for end < len(l) && sum+l[end] <= least {
			sum += l[end]
			end++
		}
		zones = append(zones, api.Span{From: at, To: end})
		at = end
	}
	return zones
}

// held: is it cut as the document has it?
func held(t *testing.T, l []int, k, least int) {
	t.Helper()
	if got, e := zone.Least(l, k); got != least || e != api.OK {
		t.Errorf("Least(%v, %d): %d, %d; want %d", l, k, got, int(e), least)
	}
	want := plainCut(l, least)
	if got, e := zone.Cut(l, k); !slices.Equal(got, want) || len(got) > k || e != api.OK {
		t.Errorf("Cut(%v, %d): %v, %d; want %v", l, k, got, int(e), want)
	}
}

// P60.1
func TestExamples(t *testing.T) {
	if zone.Most != 1048576 {
		t.Error(zone.Most)
	}
	held(t, []int{3, 1, 4, 1, 5}, 2, 8)
	held(t, []int{3, 1, 4, 1, 5}, 1, 14)
	held(t, []int{3, 1, 4, 1, 5}, 5, 5)
	held(t, []int{3, 1, 4, 1, 5}, math.MaxInt, 5)
	held(t, []int{0}, 1, 0)
	held(t, []int{0, 0, 0}, 3, 0)
	held(t, []int{0, 0, 7, 0, 0}, 2, 7)
	held(t, []int{zone.Most}, 1, zone.Most)
	all := slices.Repeat([]int{zone.Most}, 128)
	held(t, all, 1, zone.Most*128)
	held(t, all, 127, zone.Most*2)
	held(t, all, 128, zone.Most)
	if got, e := zone.Cut([]int{3, 1, 4, 1, 5}, 2); !slices.Equal(got, []api.Span{{From: 0, To: 3}, {From: 3, To: 5}}) || e != api.OK {
		t.Error(got, int(e))
	}
	// The first zones have as many as they may, so that there may be fewer than so many.
	if got, e := zone.Cut([]int{2, 0, 0, 1, 1, 0}, 4); !slices.Equal(got, []api.Span{{From: 0, To: 3}, {From: 3, To: 6}}) || e != api.OK {
		t.Error(got, int(e))
	}
}

// P60.1
func TestWrong(t *testing.T) {
	long := make([]int, 129)
	for _, c := range []struct {
		l []int
		k int
	}{
		{nil, 1}, {[]int{}, 5}, {long, 1}, {slices.Repeat(long, 9), 3}, {[]int{1, -1}, 1}, {[]int{-1}, 1}, {[]int{math.MinInt, 1}, 2}, {[]int{zone.Most + 1}, 1}, {[]int{1, 2, math.MaxInt}, 1}, {[]int{1}, 0}, {[]int{1, 2}, -1}, {[]int{1, 2}, math.MinInt}, {nil, 0},
	} {
		if got, e := zone.Least(c.l, c.k); got != 0 || e != api.ErrArg {
			t.Errorf("Least(%v, %d): %d, %d", c.l, c.k, got, int(e))
		}
		if got, e := zone.Cut(c.l, c.k); len(got) != 0 || e != api.ErrArg {
			t.Errorf("Cut(%v, %d): %v, %d", c.l, c.k, got, int(e))
		}
	}
	held(t, long[:128], 1, 0)
}

// P60.1: all cuts tried.
func TestMixed(t *testing.T) {
	for seed := range uint64(3000) {
		r := rand.New(rand.NewPCG(seed, 60))
		l := make([]int, 1+r.IntN(9))
		for i := range l {
			l[i] = r.IntN([]int{2, 5, 100, zone.Most + 1}[seed%4])
		}
		k := 1 + r.IntN(len(l)+1)
		held(t, l, k, plainLeast(l, k))
	}
}

// P60.1: of many floors: less than Least would take more zones.
func TestMany(t *testing.T) {
	for seed := range uint64(300) {
		r := rand.New(rand.NewPCG(seed, 601))
		l := make([]int, 100+r.IntN(29))
		for i := range l {
			l[i] = r.IntN(zone.Most + 1)
		}
		k := 1 + r.IntN(130)
		least, e := zone.Least(l, k)
		if e != api.OK {
			t.Fatal(int(e))
		}
		held(t, l, k, least)
		if least > slices.Max(l) && len(plainCut(l, least-1)) <= k || least < slices.Max(l) {
			t.Errorf("Least(%v, %d): %d", l, k, least)
		}
	}
}

// P60.2
func TestWeigh(t *testing.T) {
	l := []int{3, 1, 4, 1, 5}
	for from := -2; from < 8; from++ {
		for to := -2; to < 8; to++ {
			want := 0
			for floor := from; floor < to; floor++ {
				if floor >= 0 && floor < len(l) {
					want += l[floor]
				}
			}
			if got := zone.Weigh(l, api.Span{From: from, To: to}); got != want {
				t.Errorf("Weigh(%d, %d): %d; want %d", from, to, got, want)
			}
		}
	}
	whole := api.Span{From: math.MinInt, To: math.MaxInt}
	for _, c := range []struct {
		l    []int
		s    api.Span
		want int
	}{
		{l, whole, 14}, {nil, whole, 0}, {l, api.Span{From: math.MaxInt, To: math.MinInt}, 0}, {l, api.Span{From: math.MaxInt, To: math.MaxInt}, 0}, {[]int{-5, 7}, whole, 2}, {[]int{math.MaxInt, 1}, whole, math.MinInt}, {[]int{math.MaxInt, math.MaxInt, 2}, whole, 0}, {slices.Repeat([]int{1}, 500), whole, 500},
	} {
		if got := zone.Weigh(c.l, c.s); got != c.want {
			t.Errorf("Weigh(%v, %v): %d; want %d", c.l, c.s, got, c.want)
		}
	}
}

// P60.2
func TestOf(t *testing.T) {
	zones := []api.Span{{From: 5, To: 2}, {From: 0, To: 3}, {From: 2, To: 5}, {From: 7, To: 7}, {From: -3, To: -1}, {From: 9, To: math.MaxInt}}
	for floor, want := range map[int]int{0: 1, 1: 1, 2: 1, 3: 2, 4: 2, 5: -1, 6: -1, 7: -1, 8: -1, 9: 5, -1: -1, -2: 4, -3: 4, -4: -1, math.MaxInt: -1, math.MaxInt - 1: 5, math.MinInt: -1} {
		if got := zone.Of(zones, floor); got != want {
			t.Errorf("Of(%d): %d; want %d", floor, got, want)
		}
	}
	if got := zone.Of(nil, 0); got != -1 {
		t.Error(got)
	}
}
