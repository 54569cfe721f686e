package when_test

import (
	"math"
	"math/rand/v2"
	"slices"
	"testing"

	"hoistway/api"
	"hoistway/when"
)

func segments(ticks ...int) []api.Segment {
	var l []api.Segment
	for _, n := range ticks {
		l = append(l, api.Segment{Kind: api.Lunch, Ticks: n, Rate: 10})
	}
	return l
}

// laid: of each tick that there is the place of its segment, one behind the other.
func laid(l []api.Segment) []int {
	var ticks []int
	for i, g := range l {
		for range max(0, min(g.Ticks, 1<<20)) {
			ticks = append(ticks, i)
		}
	}
	return ticks
}

// held: does all hold, by the document's words, tick by tick?
func held(t *testing.T, l []api.Segment, horizon int) {
	t.Helper()
	ticks, as := laid(l), slices.Clone(l)
	if got := when.Total(l); got != len(ticks) {
		t.Fatalf("Total(%v): %d; want %d", l, got, len(ticks))
	}
	last, load := 0, 0
	for tick, i := range ticks {
		if tick >= horizon {
			break
		}
		if l[i].Rate > 0 {
			last = tick + 1
		}
		load += max(0, min(l[i].Rate, 4000))
	}
	if got := when.Last(l, horizon); got != last {
		t.Fatalf("Last(%v, %d): %d; want %d", l, horizon, got, last)
	}
	if got := when.Load(l, horizon); got != load {
		t.Fatalf("Load(%v, %d): %d; want %d", l, horizon, got, load)
	}
	for _, tick := range []int{math.MinInt, -1, 0, 1, horizon - 1, horizon, horizon + 1, len(ticks) - 1, len(ticks), len(ticks) + 1, math.MaxInt} {
		i, ok := when.At(l, tick)
		if some := tick >= 0 && tick < len(ticks); ok != some || some && i != ticks[tick] || !some && i != 0 {
			t.Fatalf("At(%v, %d): %d, %v", l, tick, i, ok)
		}
	}
	start := 0
	for i, g := range l {
		if got, ok := when.Start(l, i); got != start || !ok {
			t.Fatalf("Start(%v, %d): %d, %v; want %d", l, i, got, ok, start)
		}
		start += max(0, min(g.Ticks, 1<<20))
	}
	for _, i := range []int{math.MinInt, -1, len(l), len(l) + 1, math.MaxInt} {
		if got, ok := when.Start(l, i); got != 0 || ok {
			t.Fatalf("Start(%v, %d): %d, %v", l, i, got, ok)
		}
	}
	if !slices.Equal(l, as) {
		t.Fatalf("%v: changed", as)
	}
}

// P22.1
func TestAt(t *testing.T) {
	l := segments(5, 3)
	for tick, want := range []int{0, 0, 0, 0, 0, 1, 1, 1} {
		if i, ok := when.At(l, tick); i != want || !ok {
			t.Errorf("At(5 3, %d): %d, %v", tick, i, ok)
		}
	}
	for _, tick := range []int{8, 9, -1, math.MinInt, math.MaxInt} {
		if i, ok := when.At(l, tick); i != 0 || ok {
			t.Errorf("At(5 3, %d): %d, %v", tick, i, ok)
		}
	}
	// A segment of no ticks has none.
	for tick, want := range []int{1, 1, 4} {
		if i, ok := when.At(segments(0, 2, -7, math.MinInt, 1, 0), tick); i != want || !ok {
			t.Errorf("At(%d): %d, %v", tick, i, ok)
		}
	}
}

// P22.1
func TestFew(t *testing.T) {
	for _, l := range [][]api.Segment{
		nil, {}, segments(0), segments(-1), segments(1), segments(5, 3), segments(0, 0, 4), segments(3, 0, -5, 2, 0),
		{{Ticks: 4, Rate: 0}}, {{Ticks: 4, Rate: 7}, {Ticks: 3}}, {{Ticks: 4}, {Ticks: 3, Rate: 5}, {Ticks: 2, Rate: -5}}, {{Ticks: 2, Rate: 4000}, {Ticks: 2, Rate: 4001}, {Ticks: 2, Rate: math.MaxInt}, {Ticks: 2, Rate: math.MinInt}}, {{Ticks: 2, Rate: 1}, {Ticks: 0, Rate: 9}, {Ticks: -9, Rate: 9}}, {{Kind: 77, Ticks: 2, Rate: 1}},
	} {
		for _, horizon := range []int{math.MinInt, math.MinInt + 3, -1, 0, 1, 2, 3, 4, 5, 6, 7, 8, 9, 10, 100, math.MaxInt - 1, math.MaxInt} {
			held(t, l, horizon)
		}
	}
}

// P22.1
func TestMixed(t *testing.T) {
	for seed := range uint64(3000) {
		r := rand.New(rand.NewPCG(seed, 22))
		var l []api.Segment
		for range r.IntN(12) {
			l = append(l, api.Segment{Kind: api.Template(r.IntN(6)), Ticks: r.IntN(12) - 3, Rate: r.IntN(5)*1500 - 1500})
		}
		held(t, l, r.IntN(60)-5)
	}
}

// P22.1: each segment has at most MaxHorizon ticks.
func TestGreat(t *testing.T) {
	const most = 1 << 20
	l := []api.Segment{{Ticks: most, Rate: 4000}, {Ticks: most + 1, Rate: 4000}, {Ticks: math.MaxInt, Rate: math.MaxInt}, {Ticks: 1, Rate: 1}}
	if got := when.Total(l); got != 3*most+1 {
		t.Errorf("Total: %d", got)
	}
	for _, c := range []struct {
		tick, i int
		ok      bool
	}{{most - 1, 0, true}, {most, 1, true}, {2*most - 1, 1, true}, {2 * most, 2, true}, {3*most - 1, 2, true}, {3 * most, 3, true}, {3*most + 1, 0, false}} {
		if i, ok := when.At(l, c.tick); i != c.i || ok != c.ok {
			t.Errorf("At(%d): %d, %v", c.tick, i, ok)
		}
	}
	if start, ok := when.Start(l, 3); start != 3*most || !ok {
		t.Errorf("Start: %d, %v", start, ok)
	}
	for _, c := range []struct{ horizon, last, load int }{
		{math.MaxInt, 3*most + 1, 3*most*4000 + 1}, {3*most + 1, 3*most + 1, 3*most*4000 + 1}, {3 * most, 3 * most, 3 * most * 4000}, {2*most + 7, 2*most + 7, (2*most + 7) * 4000}, {math.MinInt, 0, 0}, {math.MinInt + 3*most, 0, 0},
	} {
		if got := when.Last(l, c.horizon); got != c.last {
			t.Errorf("Last(%d): %d", c.horizon, got)
		}
		if got := when.Load(l, c.horizon); got != c.load {
			t.Errorf("Load(%d): %d", c.horizon, got)
		}
	}
	// Of many segments the numbers are still such.
	many := slices.Repeat(l[:3], 100000)
	if got := when.Load(many, math.MaxInt); got != 300000*most*4000 {
		t.Errorf("Load of many: %d", got)
	}
	if i, ok := when.At(many, 299999*most); i != 299999 || !ok {
		t.Errorf("At of many: %d, %v", i, ok)
	}
}
