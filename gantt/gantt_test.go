package gantt_test

import (
	"math"
	"math/rand/v2"
	"strings"
	"testing"

	"hoistway/api"
	"hoistway/gantt"
	"hoistway/sample"
	"hoistway/track"
)

// P71.1
func TestMark(t *testing.T) {
	for _, c := range []struct {
		up, down, door int
		want           byte
	}{
		{0, 0, 0, '.'}, {0, 0, 1, 'o'}, {0, 1, 0, '\\'}, {1, 0, 0, '/'}, {1, 1, 0, '/'}, {1, 1, 1, 'o'}, {2, 1, 1, '/'}, {1, 2, 1, '\\'}, {2, 2, 1, '/'}, {2, 2, 2, 'o'}, {1, 2, 2, 'o'}, {2, 1, 2, 'o'}, {3, 2, 2, '/'}, {2, 3, 2, '\\'}, {5, 9, 0, '\\'}, {9, 5, 0, '/'},
		{-1, -1, -1, '.'}, {-1, -2, 0, '.'}, {0, -1, -1, '.'}, {-1, 1, -1, '\\'}, {1, -1, -1, '/'}, {-1, -1, 1, 'o'}, {math.MinInt, math.MinInt, math.MinInt, '.'}, {math.MaxInt, math.MaxInt, math.MaxInt, 'o'},
	} {
		if got := gantt.Mark(c.up, c.down, c.door); got != c.want {
			t.Errorf("Mark(%d, %d, %d): %c; want %c", c.up, c.down, c.door, got, c.want)
		}
	}
}

// P71.1
func TestSpan(t *testing.T) {
	for _, c := range []struct {
		col, cols, horizon int
		want               api.Span
	}{
		{0, 3, 10, api.Span{From: 0, To: 3}}, {1, 3, 10, api.Span{From: 3, To: 6}}, {2, 3, 10, api.Span{From: 6, To: 10}}, {0, 1, 9, api.Span{From: 0, To: 9}}, {0, 4, 2, api.Span{}}, {1, 4, 2, api.Span{From: 0, To: 1}}, {2, 4, 2, api.Span{From: 1, To: 1}}, {3, 4, 2, api.Span{From: 1, To: 2}},
		{399, 400, 1 << 20, api.Span{From: 1045954, To: 1 << 20}}, {5, 9, 0, api.Span{}}, {0, 0, 9, api.Span{}}, {3, 0, 9, api.Span{}},
	} {
		if got := gantt.Span(c.col, c.cols, c.horizon); got != c.want {
			t.Errorf("Span(%d, %d, %d): %v; want %v", c.col, c.cols, c.horizon, got, c.want)
		}
	}
}

// way is a car that stands, goes up, opens, goes down, and stands.
var way = []api.Leg{{Tick: 2, Pos: 0}, {Tick: 5, Pos: 1, Dir: 1}, {Tick: 8, Pos: 3, Door: true}, {Tick: 12, Pos: 2, Dir: -1}, {Tick: 14, Pos: 1}}

// P71.1
func TestCount(t *testing.T) {
	for _, c := range []struct {
		name           string
		legs           []api.Leg
		from, to       int
		up, down, door int
	}{
		{"no legs", nil, 0, 9, 0, 0, 0},
		{"all of it", way, 0, 20, 3, 2, 4},
		{"ahead of it", way, -9, 2, 0, 0, 0},
		{"behind it", way, 14, 99, 0, 0, 0},
		{"the first place up", way, 5, 6, 1, 0, 0},
		{"ahead of that", way, 2, 5, 0, 0, 0},
		{"from within a leg on", way, 6, 9, 2, 0, 1},
		{"the first place down", way, 12, 13, 0, 1, 0},
		{"within an open door", way, 9, 11, 0, 0, 2},
		{"an open door to its end", way, 11, 12, 0, 0, 1},
		{"a span of no tick", way, 6, 6, 0, 0, 0},
		{"a span that ends ahead of its beginning", way, 12, 6, 0, 0, 0},
		{"a span that ends ahead of its beginning, within a leg", way, 7, 6, 0, 0, 0},
		{"a span that ends ahead of its beginning, within an open door", way, 11, 9, 0, 0, 0},
		{"a first leg that goes: at its first tick it is neither higher nor lower", []api.Leg{{Tick: 3, Dir: 1}}, 0, 9, 5, 0, 0},
		{"up to a leg with an open door", []api.Leg{{}, {Tick: 3, Pos: 1, Door: true}}, 0, 9, 0, 0, 6},
		{"with an open door up, and down", []api.Leg{{Door: true, Dir: 1}, {Tick: 4, Pos: 3, Door: true, Dir: -1}}, 0, 9, 0, 0, 9},
		{"from a leg with an open door", []api.Leg{{Door: true}, {Tick: 3, Pos: -1}}, 0, 9, 0, 1, 3},
		{"by more than a place", []api.Leg{{}, {Tick: 3, Pos: 9}, {Tick: 5, Pos: -9}}, 0, 9, 1, 1, 0},
		{"without an end", []api.Leg{{}, {Tick: 7, Pos: 1, Dir: 1}}, math.MinInt, math.MaxInt, math.MaxInt - 7, 0, 0},
		{"without an end", []api.Leg{{}, {Tick: 7, Door: true}}, 1 << 40, 1 << 41, 0, 0, 1 << 40},
	} {
		up, down, door := gantt.Count(c.legs, api.Span{From: c.from, To: c.to})
		if up != c.up || down != c.down || door != c.door {
			t.Errorf("%s: %d, %d, %d; want %d, %d, %d", c.name, up, down, door, c.up, c.down, c.door)
		}
	}
}

// P71.2
func TestRow(t *testing.T) {
	for _, c := range []struct {
		name          string
		legs          []api.Leg
		cols, horizon int
		want          string
	}{
		{"one that stands", []api.Leg{{}}, 3, 9, "..."},
		{"no legs", nil, 3, 9, "..."},
		{"no columns", way, 0, 9, ""},
		{"fewer than none", way, -1, 9, ""},
		{"tick by tick", way, 20, 20, `.....///oooo\\......`},
		{"two by two", way, 10, 20, `..//oo\...`},
		{"no tick", way, 3, 0, "..."},
		{"more columns than ticks", []api.Leg{{Dir: 1}}, 8, 4, ".../././"},
	} {
		if got := gantt.Row(c.legs, c.cols, c.horizon); got != c.want {
			t.Errorf("%s: %q; want %q", c.name, got, c.want)
		}
	}
}

// P71.2
func TestText(t *testing.T) {
	if got, e := gantt.Text([][]api.Leg{way, nil, {{Door: true}}}, 10, 20); got != " 0 ..//oo\\...\n 1 ..........\n 2 oooooooooo\n" || e != api.OK {
		t.Errorf("%q, %v", got, e)
	}
	if got, e := gantt.Text(nil, 10, 20); got != "" || e != api.OK {
		t.Errorf("%q, %v", got, e)
	}
	many, e := gantt.Text(make([][]api.Leg, 101), 1, 9)
	if !strings.HasPrefix(many, " 0 .\n 1 .\n") || !strings.Contains(many, "\n 9 .\n10 .\n") || !strings.HasSuffix(many, "\n99 .\n100 .\n") || e != api.OK {
		t.Errorf("%q, %v", many, e)
	}
}

// P71.2: how many columns, and ticks, there may be.
func TestLimits(t *testing.T) {
	if gantt.Most != 400 {
		t.Error(gantt.Most)
	}
	for _, c := range []struct {
		cols, horizon int
		want          api.Errno
	}{
		{1, 9, api.OK}, {400, 9, api.OK}, {0, 9, api.ErrArg}, {401, 9, api.ErrArg}, {-1, 9, api.ErrArg}, {math.MinInt, 9, api.ErrArg}, {math.MaxInt, 9, api.ErrArg},
		{3, 0, api.OK}, {3, 1 << 20, api.OK}, {3, -1, api.ErrArg}, {3, 1<<20 + 1, api.ErrArg}, {3, math.MinInt, api.ErrArg}, {3, math.MaxInt, api.ErrArg}, {0, -1, api.ErrArg},
	} {
		want := ""
		if c.want == api.OK {
			want = " 0 " + strings.Repeat(".", c.cols) + "\n"
		}
		if got, e := gantt.Text([][]api.Leg{{{}}}, c.cols, c.horizon); got != want || e != c.want {
			t.Errorf("%d columns, %d ticks: %q, %v; want %v", c.cols, c.horizon, got, e, c.want)
		}
	}
}

// P71.1, P71.2: of drawn ways, tick by tick.
func TestDrawn(t *testing.T) {
	for seed := range uint64(5000) {
		r := rand.New(rand.NewPCG(seed, 71))
		l := sample.Legs(r.IntN, r.IntN(9), r.IntN(12)-6, 3)
		from := r.IntN(50) - 10
		s := api.Span{From: from, To: from + r.IntN(30)}
		up, down, door := count(l, s)
		if gotUp, gotDown, gotDoor := gantt.Count(l, s); gotUp != up || gotDown != down || gotDoor != door {
			t.Fatalf("Count(%v, %v): %d, %d, %d; want %d, %d, %d", l, s, gotUp, gotDown, gotDoor, up, down, door)
		}
		cols, horizon := 1+r.IntN(20), r.IntN(60)
		var want strings.Builder
		for col := range cols {
			want.WriteByte(gantt.Mark(count(l, api.Span{From: col * horizon / cols, To: (col + 1) * horizon / cols})))
		}
		if got := gantt.Row(l, cols, horizon); got != want.String() {
			t.Fatalf("Row(%v, %d, %d): %q; want %q", l, cols, horizon, got, want.String())
		}
	}
}

// count is P71.1, tick by tick.
func count(l []api.Leg, s api.Span) (int, int, int) {
	up, down, doors := 0, 0, 0
	for tick := s.From; tick < s.To; tick++ {
		before, _, was := track.At(l, tick-1)
		pos, door, is := track.At(l, tick)
		switch {
		case door:
			doors++
		case was && is && pos > before:
			up++
		case was && is && pos < before:
			down++
		}
	}
	return up, down, doors
}

// P71.2: of whatever legs Text answers something.
func TestEnds(t *testing.T) {
	numbers := []int{math.MinInt, -1, 0, 1, 9, math.MaxInt}
	for seed := range uint64(2000) {
		r := rand.New(rand.NewPCG(seed, 1))
		var l []api.Leg
		for range r.IntN(6) {
			l = append(l, api.Leg{Tick: numbers[r.IntN(6)], Pos: numbers[r.IntN(6)], Dir: numbers[r.IntN(6)], Door: r.IntN(2) == 1})
		}
		if got, e := gantt.Text([][]api.Leg{l, nil}, 1+r.IntN(20), r.IntN(20)); got == "" || e != api.OK {
			t.Fatalf("Text of %v: %q, %v", l, got, e)
		}
		gantt.Count(l, api.Span{From: numbers[r.IntN(6)], To: numbers[r.IntN(6)]})
		gantt.Row(l, numbers[r.IntN(6)], numbers[r.IntN(6)])
	}
	for _, a := range numbers {
		for _, b := range numbers {
			gantt.Span(a, b, a)
			gantt.Span(b, a, a)
		}
	}
}
