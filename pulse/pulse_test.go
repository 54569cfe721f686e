package pulse_test

import (
	"math"
	"math/rand/v2"
	"slices"
	"testing"

	"hoistway/api"
	"hoistway/pulse"
)

// P63.1
func TestCount(t *testing.T) {
	if pulse.Most != 65536 {
		t.Error(pulse.Most)
	}
	for _, c := range []struct {
		ticks          []int
		width, horizon int
		want           []int
	}{
		{[]int{0, 1, 5}, 2, 7, []int{2, 0, 1, 0}}, {nil, 1, 0, nil}, {[]int{0, 5}, 3, 0, nil}, {nil, 2, 4, []int{0, 0}}, {[]int{6, 7, 8, -1, 0, 6}, 2, 7, []int{1, 0, 0, 2}}, {[]int{3, 4, 2, 1, 5}, 3, 6, []int{2, 3}}, {[]int{5, 0, 4, 6}, 100, 5, []int{2}}, {[]int{math.MinInt, math.MaxInt, 3}, math.MaxInt, 4, []int{1}}, {[]int{math.MaxInt - 1, math.MaxInt, 0}, math.MaxInt, math.MaxInt, []int{2}}, {[]int{math.MaxInt - 1, math.MaxInt}, math.MaxInt - 1, math.MaxInt, []int{0, 1}},
	} {
		if got, e := pulse.Count(c.ticks, c.width, c.horizon); !slices.Equal(got, c.want) || e != api.OK {
			t.Errorf("Count(%v, %d, %d): %v, %d; want %v", c.ticks, c.width, c.horizon, got, int(e), c.want)
		}
	}
	for _, c := range []struct {
		width, horizon int
		want           api.Errno
	}{
		{0, 5, api.ErrArg}, {-1, 5, api.ErrArg}, {1, -1, api.ErrArg}, {math.MinInt, math.MinInt, api.ErrArg}, {0, math.MaxInt, api.ErrArg}, {0, -1, api.ErrArg},
		{1, 65537, api.ErrSize}, {2, 131073, api.ErrSize}, {1, math.MaxInt, api.ErrSize}, {3, 3*65536 + 1, api.ErrSize}, {1 << 40, math.MaxInt, api.ErrSize},
	} {
		if got, e := pulse.Count([]int{0, 1}, c.width, c.horizon); len(got) != 0 || e != c.want {
			t.Errorf("Count(%d, %d): %v, %d; want %d", c.width, c.horizon, got, int(e), int(c.want))
		}
	}
	for _, c := range []struct{ width, horizon int }{{1, 65536}, {2, 131072}, {2, 131071}, {1 << 50, 1 << 56}, {1 << 47, math.MaxInt}} {
		if got, e := pulse.Count([]int{0, c.horizon - 1}, c.width, c.horizon); e != api.OK || got[0] != 1 || got[len(got)-1] != 1 || len(got) != (c.horizon-1)/c.width+1 {
			t.Errorf("Count(%d, %d): %d, %d", c.width, c.horizon, len(got), int(e))
		}
	}
}

// P63.2
func TestSums(t *testing.T) {
	for _, c := range []struct {
		l    []int
		k    int
		want []int
	}{
		{[]int{1, 2, 3, 4}, 1, []int{1, 2, 3, 4}}, {[]int{1, 2, 3, 4}, 2, []int{3, 5, 7}}, {[]int{1, 2, 3, 4}, 3, []int{6, 9}}, {[]int{1, 2, 3, 4}, 4, []int{10}}, {[]int{1, 2, 3, 4}, 5, nil}, {[]int{1, 2, 3, 4}, 0, nil}, {[]int{1, 2}, -1, nil}, {nil, 0, nil}, {nil, 1, nil}, {[]int{1}, math.MaxInt, nil}, {[]int{1}, math.MinInt, nil}, {[]int{-5, 5, -7}, 2, []int{0, -2}}, {[]int{math.MaxInt, 1, -1, 0}, 2, []int{math.MinInt, 0, -1}}, {[]int{math.MinInt, -1, math.MinInt}, 3, []int{-1}},
	} {
		if got := pulse.Sums(c.l, c.k); !slices.Equal(got, c.want) {
			t.Errorf("Sums(%v, %d): %v; want %v", c.l, c.k, got, c.want)
		}
	}
}

// P63.2
func TestPeak(t *testing.T) {
	for _, c := range []struct {
		l         []int
		k, at, is int
		ok        bool
	}{
		{[]int{1, 4, 2, 4}, 1, 1, 4, true}, {[]int{1, 4, 2, 4}, 2, 1, 6, true}, {[]int{1, 4, 2, 4}, 3, 1, 10, true}, {[]int{1, 4, 2, 4}, 4, 0, 11, true}, {[]int{1, 4}, 3, 0, 0, false}, {[]int{1, 4}, 0, 0, 0, false}, {nil, 1, 0, 0, false}, {[]int{-5, -3, -3}, 1, 1, -3, true}, {[]int{0, 0, 0}, 2, 0, 0, true}, {[]int{math.MinInt, math.MaxInt, 1}, 2, 0, -1, true}, {[]int{math.MinInt}, 1, 0, math.MinInt, true}, {[]int{1, 2, 3}, 1, 2, 3, true},
	} {
		if at, is, ok := pulse.Peak(c.l, c.k); at != c.at || is != c.is || ok != c.ok {
			t.Errorf("Peak(%v, %d): %d, %d, %v; want %d, %d", c.l, c.k, at, is, ok, c.at, c.is)
		}
	}
	for seed := range uint64(2000) {
		r := rand.New(rand.NewPCG(seed, 63))
		l := make([]int, r.IntN(12))
		for i := range l {
			l[i] = []int{r.IntN(4), r.Int(), -r.Int()}[seed%3*uint64(r.IntN(2))]
		}
		k := r.IntN(8) - 1
		var want []int
		for i := 0; k > 0 && i+k <= len(l); i++ {
			sum := 0
			for _, n := range l[i : i+k] {
				sum += n
			}
			want = append(want, sum)
		}
		if got := pulse.Sums(l, k); !slices.Equal(got, want) {
			t.Fatalf("Sums(%v, %d): %v; want %v", l, k, got, want)
		}
		at, is := 0, 0
		if len(want) > 0 {
			is = slices.Max(want)
			at = slices.Index(want, is)
		}
		if gotAt, got, ok := pulse.Peak(l, k); gotAt != at || got != is || ok != (len(want) > 0) {
			t.Fatalf("Peak(%v, %d): %d, %d, %v; want %d, %d", l, k, gotAt, got, ok, at, is)
		}
	}
}

func trip(arrive, board, alight int) api.Trip {
	return api.Trip{Arrive: arrive, Board: board, Alight: alight}
}

// P63.3
func TestTicks(t *testing.T) {
	l := []api.Trip{trip(5, 7, 9), trip(5, 7, -1), trip(2, -1, -1), trip(0, 0, 0), trip(-1, 3, 4), trip(8, 8, 4), trip(1<<30, -1, 1<<30)}
	if got := pulse.Arrivals(l); !slices.Equal(got, []int{5, 5, 2, 0, -1, 8, 1 << 30}) {
		t.Error(got)
	}
	if got := pulse.Outs(l); !slices.Equal(got, []int{9, 0, 4, 4, 1 << 30}) {
		t.Error(got)
	}
	if got := pulse.Arrivals(nil); len(got) != 0 {
		t.Error(got)
	}
	if got := pulse.Outs([]api.Trip{trip(1, 2, -1), trip(1, 2, math.MinInt)}); len(got) != 0 {
		t.Error(got)
	}
}

// plainQueue: by the document's words.
func plainQueue(l []api.Trip, horizon int) []int {
	var many []int
	for tick := range horizon {
		n := 0
		for _, t := range l {
			if t.Arrive <= tick && (t.Board < 0 || t.Board > tick) {
				n++
			}
		}
		many = append(many, n)
	}
	return many
}

// P63.3
func TestQueue(t *testing.T) {
	l := []api.Trip{trip(1, 3, 5), trip(3, -1, -1)}
	for _, c := range []struct {
		horizon int
		want    []int
	}{{6, []int{0, 1, 1, 1, 1, 1}}, {3, []int{0, 1, 1}}, {2, []int{0, 1}}, {1, []int{0}}, {0, nil}, {-1, nil}, {math.MinInt, nil}} {
		if got := pulse.Queue(l, c.horizon); !slices.Equal(got, c.want) {
			t.Errorf("Queue(%d): %v; want %v", c.horizon, got, c.want)
		}
	}
	for seed := range uint64(3000) {
		r := rand.New(rand.NewPCG(seed, 633))
		var l []api.Trip
		ticks := []int{-1, 0, 1, 2, 3, 5, 9, 10, 11, 12, 1 << 30}
		for range r.IntN(8) {
			l = append(l, trip(ticks[r.IntN(len(ticks))], ticks[r.IntN(len(ticks))], ticks[r.IntN(len(ticks))]))
		}
		horizon := r.IntN(13)
		if got := pulse.Queue(l, horizon); !slices.Equal(got, plainQueue(l, horizon)) {
			t.Fatalf("Queue(%v, %d): %v; want %v", l, horizon, got, plainQueue(l, horizon))
		}
	}
	// The horizon is cut to MaxHorizon.
	late := []api.Trip{trip(1<<20-1, -1, -1), trip(1<<20-2, 1<<20-1, -1), trip(1<<20, -1, -1), trip(1<<30, 1<<30, 1<<30), trip(0, 1<<30, -1)}
	for _, horizon := range []int{1 << 20, 1<<20 + 1, math.MaxInt} {
		got := pulse.Queue(late, horizon)
		if len(got) != 1<<20 || got[0] != 1 || got[1<<20-3] != 1 || got[1<<20-2] != 2 || got[1<<20-1] != 2 {
			t.Errorf("Queue(%d): %d", horizon, len(got))
		}
	}
	// Of many in a short time.
	crowd := slices.Repeat([]api.Trip{trip(0, 1<<20, 1<<20), trip(5, -1, -1)}, 50000)
	if got := pulse.Queue(crowd, 1<<20); got[4] != 50000 || got[5] != 100000 || got[1<<20-1] != 100000 {
		t.Error(got[4:6], got[1<<20-1])
	}
	// P1: of any numbers it ends.
	pulse.Queue([]api.Trip{trip(math.MinInt, math.MaxInt, 0), trip(math.MaxInt, math.MinInt, 0), trip(math.MaxInt, math.MaxInt, 0), trip(math.MinInt, math.MinInt, 0)}, 5)
}
