package track_test

import (
	"math"
	"math/rand/v2"
	"slices"
	"testing"

	"hoistway/api"
	"hoistway/span"
	"hoistway/track"
)

const most = 1 << 30

// spot is how things are behind a tick.
type spot struct {
	pos  int
	door bool
}

// spots: the ticks of runs, one by one.
func spots(l []track.Run) []spot {
	var ticks []spot
	for _, r := range l {
		for k := range max(0, r.N) {
			ticks = append(ticks, spot{r.Pos + k*r.Dir, r.Door})
		}
	}
	return ticks
}

// legs: of ticks, by the document's words: each has as many as it may, from the first one on.
func legs(ticks []spot) []api.Leg {
	var l []api.Leg
	for i := 0; i < len(ticks); {
		leg := api.Leg{Tick: i, Pos: ticks[i].pos, Door: ticks[i].door}
		k := i + 1
		if k < len(ticks) && ticks[k].door == leg.Door {
			if dir := ticks[k].pos - leg.Pos; dir == -1 || dir == 0 || dir == 1 {
				leg.Dir = dir
				for k < len(ticks) && ticks[k] == (spot{leg.Pos + (k-i)*dir, leg.Door}) {
					k++
				}
			}
		}
		l = append(l, leg)
		i = k
	}
	return l
}

func built(l ...track.Run) *track.Builder {
	b := &track.Builder{}
	for _, r := range l {
		b.Add(r)
	}
	return b
}

// held: does a builder of runs have the legs that it is to have, and do these tell what the runs told?
func held(t *testing.T, l ...track.Run) {
	t.Helper()
	b, ticks := built(l...), spots(l)
	got := b.Legs()
	if b.Ticks() != len(ticks) || !slices.Equal(got, legs(ticks)) {
		t.Fatalf("runs %v: %d, %v; want %d, %v", l, b.Ticks(), got, len(ticks), legs(ticks))
	}
	way := track.Expand(got, len(ticks))
	if len(way) != len(ticks) {
		t.Fatalf("Expand(%v, %d): %v", got, len(ticks), way)
	}
	for tick, s := range ticks {
		pos, door, ok := track.At(got, tick)
		if pos != s.pos || door != s.door || !ok || way[tick] != s.pos {
			t.Fatalf("At(%v, %d): %d, %v, %v; Expand: %d; want %v", got, tick, pos, door, ok, way[tick], s)
		}
	}
}

// P25.1
func TestZero(t *testing.T) {
	var b track.Builder
	if b.Ticks() != 0 || len(b.Legs()) != 0 {
		t.Error(b.Ticks(), b.Legs())
	}
	for _, n := range []int{0, -1, -most, math.MinInt} {
		b.Add(track.Run{Pos: 5, Dir: 1, N: n, Door: true})
		if b.Ticks() != 0 || len(b.Legs()) != 0 {
			t.Error(n, b.Ticks(), b.Legs())
		}
	}
}

// P25.1
func TestBuilder(t *testing.T) {
	for _, c := range []struct {
		runs []track.Run
		want []api.Leg
	}{
		{[]track.Run{{Pos: 0, Dir: 0, N: 2, Door: true}, {Pos: 1, Dir: 1, N: 3}}, []api.Leg{{Door: true}, {Tick: 2, Pos: 1, Dir: 1}}},
		// A leg of one tick has no direction, whatever its run's is.
		{[]track.Run{{Pos: 7, Dir: 1, N: 1}}, []api.Leg{{Pos: 7}}}, {[]track.Run{{Pos: 7, Dir: -1, N: 1, Door: true}, {Pos: 6, Dir: -1, N: 1}}, []api.Leg{{Pos: 7, Door: true}, {Tick: 1, Pos: 6}}},
		// The second tick tells it, even if it is another run's.
		{[]track.Run{{Pos: 7, N: 1}, {Pos: 8, N: 1}}, []api.Leg{{Pos: 7, Dir: 1}}}, {[]track.Run{{Pos: 7, Dir: 1, N: 1}, {Pos: 7, Dir: 1, N: 3}}, []api.Leg{{Pos: 7}, {Tick: 2, Pos: 8, Dir: 1}}}, {[]track.Run{{Pos: 7, Dir: 1, N: 1}, {Pos: 6, Dir: -1, N: 9}}, []api.Leg{{Pos: 7, Dir: -1}}},
		// One leg, where runs go on alike.
		{[]track.Run{{Pos: 0, Dir: 1, N: 4}, {Pos: 4, Dir: 1, N: 2}, {Pos: 6, Dir: -1, N: 1}}, []api.Leg{{Dir: 1}}}, {[]track.Run{{Pos: 3, N: 5}, {Pos: 3, N: 5}, {Pos: 3, Dir: 1, N: 1}}, []api.Leg{{Pos: 3}}},
		// The last tick of what stands still begins no leg, when it goes on.
		{[]track.Run{{Pos: 3, N: 2}, {Pos: 3, Dir: 1, N: 3}}, []api.Leg{{Pos: 3}, {Tick: 3, Pos: 4, Dir: 1}}},
		// It turns: the tick at the top is the last one up.
		{[]track.Run{{Pos: 0, Dir: 1, N: 4}, {Pos: 2, Dir: -1, N: 3}}, []api.Leg{{Dir: 1}, {Tick: 4, Pos: 2, Dir: -1}}},
		// Jumps: legs of one tick.
		{[]track.Run{{Pos: 0, N: 1}, {Pos: 2, N: 1}, {Pos: 9, N: 1}, {Pos: 8, N: 1}}, []api.Leg{{}, {Tick: 1, Pos: 2}, {Tick: 2, Pos: 9, Dir: -1}}}, {[]track.Run{{Pos: -most, N: 1}, {Pos: most, N: 1}, {Pos: most, N: 2}}, []api.Leg{{Pos: -most}, {Tick: 1, Pos: most}}},
		// A door alone parts legs.
		{[]track.Run{{Pos: 3, N: 2}, {Pos: 3, N: 2, Door: true}, {Pos: 3, N: 1}}, []api.Leg{{Pos: 3}, {Tick: 2, Pos: 3, Door: true}, {Tick: 4, Pos: 3}}}, {[]track.Run{{Pos: 3, Dir: 1, N: 2}, {Pos: 5, Dir: 1, N: 2, Door: true}}, []api.Leg{{Pos: 3, Dir: 1}, {Tick: 2, Pos: 5, Dir: 1, Door: true}}},
		// Runs of no ticks between.
		{[]track.Run{{Pos: 3, N: 2}, {Pos: 9, N: 0, Door: true}, {Pos: 4, N: -5}, {Pos: 3, N: 1}}, []api.Leg{{Pos: 3}}},
	} {
		if got := built(c.runs...).Legs(); !slices.Equal(got, c.want) {
			t.Errorf("Legs of %v: %v; want %v", c.runs, got, c.want)
		}
		held(t, c.runs...)
	}
}

// P25.1: runs of very many ticks take no longer than others.
func TestLong(t *testing.T) {
	b := built(track.Run{Pos: -most, Dir: 1, N: most}, track.Run{Pos: 0, Dir: 1, N: most}, track.Run{Pos: most, Dir: 0, N: most}, track.Run{Pos: most, Dir: -1, N: most}, track.Run{Pos: most, N: 1}, track.Run{Pos: most, Dir: 1, N: most}, track.Run{Pos: 2*most - 1, Dir: 1, N: most})
	want := []api.Leg{{Pos: -most, Dir: 1}, {Tick: 2*most + 1, Pos: most}, {Tick: 3*most + 1, Pos: most - 1, Dir: -1}, {Tick: 4 * most, Pos: most}, {Tick: 4*most + 2, Pos: most + 1, Dir: 1}, {Tick: 5*most + 1, Pos: 2*most - 1, Dir: 1}}
	// The first leg goes on to the tick at which the car is at most, the fourth one stands there for two.
	if got := b.Legs(); !slices.Equal(got, want) || b.Ticks() != 6*most+1 {
		t.Errorf("Legs: %v, %d; want %v", got, b.Ticks(), want)
	}
	b = &track.Builder{}
	for n := range 3000 {
		b.Add(track.Run{Pos: n % 3, Dir: 0, N: most})
		b.Add(track.Run{Pos: 0, Dir: n%2*2 - 1, N: most})
	}
	if got := len(b.Legs()); got < 6000 || b.Ticks() != 6000*most {
		t.Errorf("Legs of many runs: %d, %d", got, b.Ticks())
	}
}

// mixed: runs of a few ticks, that go on from each other or jump.
func mixed(r *rand.Rand) []track.Run {
	var l []track.Run
	pos := 0
	for range r.IntN(12) {
		run := track.Run{Pos: pos + r.IntN(3) - 1, Dir: r.IntN(3) - 1, N: r.IntN(5), Door: r.IntN(3) == 0}
		if r.IntN(6) == 0 {
			run.Pos += r.IntN(9) - 4
		}
		l = append(l, run)
		pos = run.Pos + run.N*run.Dir
	}
	return l
}

// P25.1, P25.3: whatever runs are cut into, the legs are the same, and tell what the runs told.
func TestMixed(t *testing.T) {
	for seed := range uint64(6000) {
		r := rand.New(rand.NewPCG(seed, 25))
		l := mixed(r)
		held(t, l...)
		var cut, single []track.Run
		for _, run := range l {
			first := run
			first.N = r.IntN(run.N + 1)
			rest := track.Run{Pos: run.Pos + first.N*run.Dir, Dir: run.Dir, N: run.N - first.N, Door: run.Door}
			cut = append(cut, first, rest)
		}
		for _, s := range spots(l) {
			single = append(single, track.Run{Pos: s.pos, Dir: r.IntN(3) - 1, N: 1, Door: s.door})
		}
		want := built(l...).Legs()
		if got := built(cut...).Legs(); !slices.Equal(got, want) {
			t.Fatalf("Legs of %v: %v; want %v", cut, got, want)
		}
		if got := built(single...).Legs(); !slices.Equal(got, want) {
			t.Fatalf("Legs of %v: %v; want %v", single, got, want)
		}
	}
}

// P25.2
func TestAt(t *testing.T) {
	l := []api.Leg{{Tick: 2, Pos: 5, Dir: 1}, {Tick: 6, Pos: 9, Door: true}, {Tick: 7, Pos: 9, Dir: -1}}
	for tick, want := range map[int]spot{2: {5, false}, 3: {6, false}, 5: {8, false}, 6: {9, true}, 7: {9, false}, 8: {8, false}, 100: {-84, false}, most: {9 - most + 7, false}} {
		if pos, door, ok := track.At(l, tick); pos != want.pos || door != want.door || !ok {
			t.Errorf("At(%d): %d, %v, %v; want %v", tick, pos, door, ok, want)
		}
	}
	for _, tick := range []int{1, 0, -1, -most, math.MinInt} {
		if pos, door, ok := track.At(l, tick); pos != 0 || door || ok {
			t.Errorf("At(%d): %d, %v, %v", tick, pos, door, ok)
		}
		if pos, door, ok := track.At(nil, -tick); pos != 0 || door || ok {
			t.Errorf("At of none (%d): %d, %v, %v", -tick, pos, door, ok)
		}
	}
	ahead := []api.Leg{{Tick: -most, Pos: -most, Dir: 1, Door: true}}
	if pos, door, ok := track.At(ahead, most); pos != most || !door || !ok {
		t.Errorf("At: %d, %v, %v", pos, door, ok)
	}
	if pos, door, ok := track.At(ahead, -most-1); pos != 0 || door || ok {
		t.Errorf("At: %d, %v, %v", pos, door, ok)
	}
}

// checkAll: do Expand, Doors and Far tell of legs what At tells, tick by tick?
func checkAll(t *testing.T, l []api.Leg, horizon int) {
	t.Helper()
	as := slices.Clone(l)
	var way []int
	var open []api.Span
	far := 0
	if len(l) > 0 {
		for tick := l[0].Tick; tick < horizon; tick++ {
			pos, door, _ := track.At(l, tick)
			if len(way) > 0 {
				far += max(pos-way[len(way)-1], way[len(way)-1]-pos)
			}
			way = append(way, pos)
			if door {
				open = append(open, api.Span{From: tick, To: tick + 1})
			}
		}
	}
	if got := track.Expand(l, horizon); !slices.Equal(got, way) {
		t.Fatalf("Expand(%v, %d): %v; want %v", l, horizon, got, way)
	}
	if got := track.Doors(l, horizon); !slices.Equal(got, span.Merge(open...)) || !span.Right(got...) {
		t.Fatalf("Doors(%v, %d): %v; want %v", l, horizon, got, span.Merge(open...))
	}
	if got := track.Far(l, horizon); got != far {
		t.Fatalf("Far(%v, %d): %d; want %d", l, horizon, got, far)
	}
	if !slices.Equal(l, as) {
		t.Fatalf("%v: changed", as)
	}
}

// P25.2
func TestExpandDoorsFar(t *testing.T) {
	l := []api.Leg{{Tick: 2, Pos: 5, Dir: 1}, {Tick: 6, Pos: 9, Door: true}, {Tick: 7, Pos: 9, Door: true}, {Tick: 9, Pos: 9, Dir: -1}}
	if got := track.Expand(l, 12); !slices.Equal(got, []int{5, 6, 7, 8, 9, 9, 9, 9, 8, 7}) {
		t.Errorf("Expand: %v", got)
	}
	if got := track.Doors(l, 12); !slices.Equal(got, []api.Span{{From: 6, To: 9}}) {
		t.Errorf("Doors: %v", got)
	}
	if got := track.Far(l, 12); got != 6 {
		t.Errorf("Far: %d", got)
	}
	// A way from one leg to the next one counts, however far it is.
	if got := track.Far([]api.Leg{{Pos: 5}, {Tick: 1, Pos: -3}, {Tick: 2, Pos: 100, Dir: 1}}, 5); got != 8+103+2 {
		t.Errorf("Far: %d", got)
	}
	for _, l := range [][]api.Leg{nil, {}, l, l[:1], l[1:2], l[1:], {{Tick: -4, Pos: 2, Dir: 1, Door: true}, {Tick: 3, Pos: 2, Door: true}}, {{Tick: 5, Door: true}, {Tick: 6}, {Tick: 7, Door: true}}, {{Dir: 3}, {Tick: 4, Pos: 1, Dir: -7, Door: true}}} {
		for horizon := -6; horizon < 16; horizon++ {
			checkAll(t, l, horizon)
		}
		checkAll(t, l, math.MinInt)
	}
	for seed := range uint64(3000) {
		r := rand.New(rand.NewPCG(seed, 252))
		var l []api.Leg
		tick := r.IntN(9) - 4
		for range r.IntN(8) {
			l = append(l, api.Leg{Tick: tick, Pos: r.IntN(5) - 2, Dir: r.IntN(3) - 1, Door: r.IntN(2) == 0})
			tick += 1 + r.IntN(4)
		}
		checkAll(t, l, tick+r.IntN(9)-5)
	}
}

// P25.2: of ticks and places at the ends.
func TestGreat(t *testing.T) {
	l := []api.Leg{{Tick: -most, Pos: -most, Dir: 1}, {Tick: most - 1, Pos: -most, Door: true}}
	if got := track.Far(l, most); got != 2*most-2+2*most-2 {
		t.Errorf("Far: %d", got)
	}
	if got := track.Far(l, most-1); got != 2*most-2 {
		t.Errorf("Far: %d", got)
	}
	if got := track.Doors(l, most); !slices.Equal(got, []api.Span{{From: most - 1, To: most}}) {
		t.Errorf("Doors: %v", got)
	}
	if got := track.Doors(l, most-1); len(got) != 0 {
		t.Errorf("Doors: %v", got)
	}
	if got := track.Expand(l[1:], most); !slices.Equal(got, []int{-most}) {
		t.Errorf("Expand: %v", got)
	}
	if got := track.Expand(l, -most+2); !slices.Equal(got, []int{-most, -most + 1}) {
		t.Errorf("Expand: %v", got)
	}
}

// Rule 5: what is answered is new.
func TestNew(t *testing.T) {
	b := built(track.Run{Pos: 1, N: 2}, track.Run{Pos: 7, N: 2})
	l := b.Legs()
	l[0].Pos, l[1].Tick = 50, 60
	l = append(l, api.Leg{})
	b.Add(track.Run{Pos: 7, N: 1, Door: true})
	if got := b.Legs(); !slices.Equal(got, []api.Leg{{Pos: 1}, {Tick: 2, Pos: 7}, {Tick: 4, Pos: 7, Door: true}}) || len(l) != 3 {
		t.Error(got)
	}
	// Legs that were told stay as they were, while more ticks come.
	b = built(track.Run{Pos: 1, N: 1})
	l = b.Legs()
	b.Add(track.Run{Pos: 2, Dir: 1, N: 5})
	if !slices.Equal(l, []api.Leg{{Pos: 1}}) || !slices.Equal(b.Legs(), []api.Leg{{Pos: 1, Dir: 1}}) {
		t.Error(l, b.Legs())
	}
}

// P1: legs whose Ticks don't rise, and numbers of any size: nothing is promised but that all ends.
func TestWrong(t *testing.T) {
	edges := []int{math.MinInt, -1, 0, 1, math.MaxInt}
	for _, a := range edges {
		for _, b := range edges {
			l := []api.Leg{{Tick: 5, Pos: a, Dir: b}, {Tick: 5, Pos: b, Dir: a, Door: true}, {Tick: 3, Pos: b, Dir: a, Door: true}}
			track.At(l, a)
			track.Doors(l, b)
			track.Far(l, a)
			track.Expand(l, 9)
			built(track.Run{Pos: a, Dir: b, N: 3}, track.Run{Pos: b, Dir: a, N: 3, Door: true})
		}
	}
}
