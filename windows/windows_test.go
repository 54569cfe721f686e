package windows_test

import (
	"math"
	"math/rand/v2"
	"slices"
	"testing"

	"hoistway/api"
	"hoistway/pulse"
	"hoistway/sample"
	"hoistway/windows"
)

func span(from, to int) api.Span { return api.Span{From: from, To: to} }

func one(arrive, board, alight int) api.Trip {
	return api.Trip{Arrive: arrive, Board: board, Alight: alight}
}

// P72.1: each case that the chapter names, by itself. The span is from 10 on, ahead of 20.
func TestOf(t *testing.T) {
	for _, c := range []struct {
		name string
		trip api.Trip
		want windows.Row
	}{
		{"came ahead of it, and got in and out there", one(1, 5, 9), windows.Row{}},
		{"came ahead of it, and waits yet", one(9, -1, -1), windows.Row{Behind: 1}},
		{"came ahead of it, and got in", one(9, 10, -1), windows.Row{In: 1, Waited: 1}},
		{"came ahead of it, got in, and out", one(3, 19, 19), windows.Row{In: 1, Waited: 16, Out: 1}},
		{"came ahead of it, got in at its end", one(3, 20, 25), windows.Row{Behind: 1}},
		{"got out at its first tick", one(3, 9, 10), windows.Row{Out: 1}},
		{"got out at its last tick", one(3, 9, 19), windows.Row{Out: 1}},
		{"got out behind it", one(3, 9, 20), windows.Row{}},
		{"came at its first tick", one(10, -1, -1), windows.Row{Came: 1, Behind: 1}},
		{"came at its last tick", one(19, -1, -1), windows.Row{Came: 1, Behind: 1}},
		{"came, got in", one(12, 12, -1), windows.Row{Came: 1, In: 1}},
		{"came, got in, and out", one(12, 15, 18), windows.Row{Came: 1, In: 1, Waited: 3, Out: 1}},
		{"came, got in behind it", one(12, 23, 28), windows.Row{Came: 1, Behind: 1}},
		{"came behind it", one(20, 21, 22), windows.Row{}},
		{"came behind it, and waits", one(20, -1, -1), windows.Row{}},
	} {
		c.want.Of = span(10, 20)
		if got := windows.Of([]api.Trip{c.trip}, span(10, 20)); got != c.want {
			t.Errorf("%s: %v; want %v", c.name, got, c.want)
		}
	}
}

// P72.1: a tick below 0 is one of a span, but of Board and Alight, of which it says that there is none.
func TestBelow(t *testing.T) {
	if got := windows.Of([]api.Trip{one(-2, -1, -1), one(-1, 0, 1), one(-3, 4, 5), one(-6, -1, -1)}, span(-5, 3)); got != (windows.Row{Of: span(-5, 3), Came: 3, In: 1, Out: 1, Waited: 1, Behind: 3}) {
		t.Error(got)
	}
	got, e := windows.All([]api.Trip{one(-2, -1, -1), one(-1, 3, 4)}, 2, 5)
	if e != api.OK || !slices.Equal(got, []windows.Row{{Of: span(0, 2), Behind: 2}, {Of: span(2, 4), In: 1, Waited: 4, Behind: 1}, {Of: span(4, 5), Out: 1, Behind: 1}}) {
		t.Error(got, e)
	}
}

// P72.1
func TestEmpty(t *testing.T) {
	if got := windows.Of(nil, span(3, 9)); got != (windows.Row{Of: span(3, 9)}) {
		t.Error(got)
	}
	// No tick is one of a span without any; but some came ahead of its end, and wait.
	if got := windows.Of([]api.Trip{one(3, 5, 7), one(4, 5, 5), one(2, 4, 5), one(1, -1, -1), one(5, 5, 5)}, span(5, 5)); got != (windows.Row{Of: span(5, 5), Behind: 3}) {
		t.Error(got)
	}
	if got := windows.Of([]api.Trip{one(3, 5, 7), one(6, 7, 8)}, span(8, 4)); got != (windows.Row{Of: span(8, 4), Behind: 1}) {
		t.Error(got)
	}
}

// trips come, get in, get out ahead of the tick 10, and behind it.
var trips = []api.Trip{one(0, 3, 4), one(3, 3, 9), one(4, 8, 12), one(5, 11, 13), one(9, -1, -1), one(10, 12, 13), one(2, 7, -1), one(12, -1, -1)}

// rows are of each four ticks, ahead of the tick 10.
var rows = []windows.Row{
	{Of: span(0, 4), Came: 3, In: 2, Waited: 3, Behind: 1},
	{Of: span(4, 8), Came: 2, In: 1, Out: 1, Waited: 5, Behind: 2},
	{Of: span(8, 10), Came: 1, In: 1, Out: 1, Waited: 4, Behind: 2},
}

// P72.1
func TestAll(t *testing.T) {
	if got, e := windows.All(trips, 4, 10); !slices.Equal(got, rows) || e != api.OK {
		t.Errorf("%v, %v; want %v", got, e, rows)
	}
	for _, c := range []struct {
		width, horizon int
		want           []api.Span
	}{
		{4, 0, nil}, {4, 3, []api.Span{span(0, 3)}}, {4, 4, []api.Span{span(0, 4)}}, {4, 5, []api.Span{span(0, 4), span(4, 5)}}, {4, 8, []api.Span{span(0, 4), span(4, 8)}},
		{1, 3, []api.Span{span(0, 1), span(1, 2), span(2, 3)}}, {math.MaxInt, 9, []api.Span{span(0, 9)}}, {math.MaxInt, math.MaxInt, []api.Span{span(0, math.MaxInt)}},
		{math.MaxInt - 1, math.MaxInt, []api.Span{span(0, math.MaxInt-1), span(math.MaxInt-1, math.MaxInt)}},
	} {
		got, e := windows.All(nil, c.width, c.horizon)
		var spans []api.Span
		for _, r := range got {
			spans = append(spans, r.Of)
			if r != (windows.Row{Of: r.Of}) {
				t.Errorf("%d, %d: %v of no trips", c.width, c.horizon, r)
			}
		}
		if !slices.Equal(spans, c.want) || e != api.OK {
			t.Errorf("%d, %d: %v, %v; want %v", c.width, c.horizon, spans, e, c.want)
		}
	}
}

// P72.1: the errors are layer 63's.
func TestWrong(t *testing.T) {
	for _, c := range []struct {
		width, horizon int
		want           api.Errno
	}{
		{0, 5, api.ErrArg}, {-1, 5, api.ErrArg}, {5, -1, api.ErrArg}, {0, -1, api.ErrArg}, {math.MinInt, math.MinInt, api.ErrArg}, {0, math.MaxInt, api.ErrArg},
		{1, pulse.Most + 1, api.ErrSize}, {2, 2*pulse.Most + 1, api.ErrSize}, {1, math.MaxInt, api.ErrSize},
	} {
		if got, e := windows.All(trips, c.width, c.horizon); len(got) != 0 || e != c.want {
			t.Errorf("%d, %d: %d rows, %v; want %v", c.width, c.horizon, len(got), e, c.want)
		}
		if _, e := pulse.Count(nil, c.width, c.horizon); e != c.want {
			t.Errorf("%d, %d: %v of layer 63", c.width, c.horizon, e)
		}
	}
}

// P72.1: as many windows as there may be, of many trips.
func TestMost(t *testing.T) {
	l := slices.Repeat([]api.Trip{one(1, 2*pulse.Most-1, -1)}, 100000)
	got, e := windows.All(l, 2, 2*pulse.Most)
	if e != api.OK || len(got) != pulse.Most {
		t.Fatal(len(got), e)
	}
	last := windows.Row{Of: span(2*pulse.Most-2, 2*pulse.Most), In: len(l), Waited: len(l) * (2*pulse.Most - 2)}
	if got[0] != (windows.Row{Of: span(0, 2), Came: len(l), Behind: len(l)}) || got[1].Behind != len(l) || got[pulse.Most-1] != last {
		t.Error(got[0], got[1], got[pulse.Most-1])
	}
}

// P72.2
func TestSum(t *testing.T) {
	for _, c := range []struct {
		name string
		rows []windows.Row
		want windows.Row
		ok   bool
	}{
		{"none", nil, windows.Row{}, false},
		{"none", []windows.Row{}, windows.Row{}, false},
		{"one", rows[1:2], rows[1], true},
		{"all", rows, windows.Row{Of: span(0, 10), Came: 6, In: 4, Out: 2, Waited: 12, Behind: 2}, true},
		{"the last ones", []windows.Row{{Of: span(3, 5), Came: 1, In: 2, Out: 3, Waited: 4, Behind: 5}, {Of: span(5, 7), Came: 10, In: 20, Out: 30, Waited: 40, Behind: 50}}, windows.Row{Of: span(3, 7), Came: 11, In: 22, Out: 33, Waited: 44, Behind: 50}, true},
	} {
		if got, ok := windows.Sum(c.rows); got != c.want || ok != c.ok {
			t.Errorf("%s: %v, %v; want %v", c.name, got, ok, c.want)
		}
	}
}

// P72.2: letter by letter.
func TestText(t *testing.T) {
	l := append(slices.Clone(rows), windows.Row{Of: span(90061, 90070), Came: 200, In: 0, Out: 7, Behind: 1234}, windows.Row{Of: span(-9, 0), In: 3, Waited: 200}, windows.Row{In: 2, Waited: -1}, windows.Row{In: -2, Waited: 1}, windows.Row{In: 1, Waited: math.MaxInt})
	const want = `time                   came  in  out   wait  left
00:00:00-00:00:04         3   2    0   1.50     1
00:00:04-00:00:08         2   1    1   5.00     2
00:00:08-00:00:10         1   1    1   4.00     2
1d01:01:01-1d01:01:10   200   0    7      -  1234
-00:00:09-00:00:00        0   3    0  66.66     0
00:00:00-00:00:00         0   2    0      -     0
00:00:00-00:00:00         0  -2    0      -     0
00:00:00-00:00:00         0   1    0      -     0
`
	if got := windows.Text(l); got != want {
		t.Errorf("%s; want %s", got, want)
	}
	for _, l := range [][]windows.Row{nil, {}} {
		if got := windows.Text(l); got != "time  came  in  out  wait  left\n" {
			t.Errorf("%q", got)
		}
	}
}

// of is P72.1's Of, tick by tick.
func of(l []api.Trip, s api.Span) windows.Row {
	r := windows.Row{Of: s}
	for _, x := range l {
		for tick := s.From; tick < s.To; tick++ {
			if x.Arrive == tick {
				r.Came++
			}
			if x.Board == tick {
				r.In++
				r.Waited += tick - x.Arrive
			}
			if x.Alight == tick {
				r.Out++
			}
		}
		if x.Arrive < s.To && !(x.Board >= 0 && x.Board < s.To) {
			r.Behind++
		}
	}
	return r
}

// P72.1, P72.2: of drawn trips each row is Of of its ticks, and all of them together are Of of all ticks.
func TestDrawn(t *testing.T) {
	for seed := range uint64(3000) {
		r := rand.New(rand.NewPCG(seed, 72))
		l := sample.Trips(r.IntN, r.IntN(30), 5, 2, 1+r.IntN(60))
		before := slices.Clone(l)
		width, horizon := 1+r.IntN(20), r.IntN(70)
		got, e := windows.All(l, width, horizon)
		if e != api.OK || len(got) != (horizon+width-1)/width {
			t.Fatalf("All by %d, %d: %v, %v", width, horizon, got, e)
		}
		for i, row := range got {
			s := span(i*width, min((i+1)*width, horizon))
			if want := of(l, s); row != want || windows.Of(l, s) != want {
				t.Fatalf("%v: %v, %v; want %v", l, row, windows.Of(l, s), want)
			}
		}
		sum, ok := windows.Sum(got)
		if ok != (horizon > 0) || ok && sum != windows.Of(l, span(0, horizon)) {
			t.Fatalf("%v: the sum of %v is %v, %v", l, got, sum, ok)
		}
		if !slices.Equal(l, before) {
			t.Fatal("the trips are changed")
		}
	}
}

// P1: at any argument all of it ends.
func TestEnds(t *testing.T) {
	numbers := []int{math.MinInt, -1, 0, 1, 9, math.MaxInt}
	for _, a := range numbers {
		for _, b := range numbers {
			l := []api.Trip{one(a, b, a), one(b, a, b)}
			got := windows.Of(l, span(a, b))
			for _, c := range numbers {
				all, _ := windows.All(l, b, c)
				windows.Sum(all)
				windows.Text(append(slices.Clip(all), got, windows.Row{Of: span(b, a), Came: a, In: b, Out: a, Waited: b, Behind: c}))
			}
		}
	}
}
