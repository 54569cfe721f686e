package arrive_test

import (
	"math"
	"math/rand/v2"
	"reflect"
	"slices"
	"testing"

	"hoistway/api"
	"hoistway/arrive"
	"hoistway/cumul"
	"hoistway/demand"
	"hoistway/draw"
	"hoistway/vet"
)

func scenario(floors, horizon int, segments ...api.Segment) api.Scenario {
	return api.Scenario{
		Floors: floors, Gap: 2, Cars: 2, Capacity: 3, Open: 2, Dwell: 3, Close: 2, Transfer: 1,
		Segments: segments, Dispatcher: api.Soonest, Horizon: horizon, Bins: 4, Width: 5,
	}
}

func segment(kind api.Template, ticks, rate int) api.Segment {
	return api.Segment{Kind: kind, Ticks: ticks, Rate: rate}
}

func someWords(n int, seed uint64) []uint32 {
	r := rand.New(rand.NewPCG(seed, 28))
	l := make([]uint32, n)
	for i := range l {
		l[i] = r.Uint32()
	}
	return l
}

// plain: by the document's words: who comes in each tick, and how many words were drawn behind each; up to the first one at which a word isn't there.
func plain(s api.Scenario, words []uint32, at int) ([][]api.Passenger, []int) {
	var ticks [][]api.Passenger
	var drawn []int
	tick, id := 0, 0
	for _, g := range s.Segments {
		table, _ := cumul.Table(g.Rate)
		for range g.Ticks {
			if tick == s.Horizon {
				return ticks, drawn
			}
			var l []api.Passenger
			if g.Rate > 0 {
				if at >= len(words) {
					return ticks, drawn
				}
				many := draw.Of(table, words[at])
				at++
				for range many {
					if at >= len(words) {
						return ticks, drawn
					}
					c, _ := demand.Pair(g.Kind, s.Floors, words[at])
					at++
					l = append(l, api.Passenger{Id: id, Tick: tick, From: c.From, To: c.To})
					id++
				}
			}
			ticks, drawn = append(ticks, l), append(drawn, at)
			tick++
		}
	}
	return ticks, drawn
}

func ticksOf(s api.Scenario) int {
	sum := 0
	for _, g := range s.Segments {
		sum += g.Ticks
	}
	return min(sum, s.Horizon)
}

// held: does what is made of a scenario and a stream come as the document has it, to the end or to a word that isn't there?
func held(t *testing.T, s api.Scenario, stream api.Stream) {
	t.Helper()
	want, drawn := plain(s, stream.Words, stream.At)
	g, e := arrive.Make(s, stream)
	if g == nil || e != api.OK {
		t.Fatalf("Make(%v): %d", s, int(e))
	}
	at := stream.At
	for tick, l := range want {
		if g.Over() || g.Tick() != tick || !reflect.DeepEqual(g.Stream(), api.Stream{Words: stream.Words, At: at}) {
			t.Fatalf("%v: at tick %d: %v, %d, %v; want %d", s, tick, g.Over(), g.Tick(), g.Stream(), at)
		}
		if got, e := g.Next(); e != api.OK || !slices.Equal(got, l) {
			t.Fatalf("%v: at tick %d: %v, %d; want %v", s, tick, got, int(e), l)
		}
		at = drawn[tick]
	}
	over, last := len(want) == ticksOf(s), api.OK
	if !over {
		last = api.ErrDry
	}
	// Neither at the end nor where a word isn't there does anything change.
	for range 3 {
		if g.Over() != over || g.Tick() != len(want) || !reflect.DeepEqual(g.Stream(), api.Stream{Words: stream.Words, At: at}) {
			t.Fatalf("%v: behind tick %d: %v, %d, %v; want %v, %d", s, len(want), g.Over(), g.Tick(), g.Stream(), over, at)
		}
		if got, e := g.Next(); e != last || len(got) != 0 {
			t.Fatalf("%v: behind tick %d: %v, %d", s, len(want), got, int(e))
		}
	}
	all, left := slices.Concat(want...), api.Stream{Words: stream.Words, At: at}
	if !over {
		all, left = nil, stream
	}
	if l, after, e := arrive.List(s, stream); e != last || !slices.Equal(l, all) || !reflect.DeepEqual(after, left) {
		t.Fatalf("List(%v): %v, %v, %d; want %v, %v, %d", s, l, after, int(e), all, left, int(last))
	}
}

// P28.1, P28.2
func TestPlain(t *testing.T) {
	for seed := range uint64(300) {
		r := rand.New(rand.NewPCG(seed, 281))
		var segments []api.Segment
		for range 1 + r.IntN(8) {
			rate := []int{0, 1, 300, 1000, 4000}[r.IntN(5)]
			segments = append(segments, segment(api.Template(1+r.IntN(4)), 1+r.IntN(12), rate))
		}
		floors := []int{2, 3, 9, 20}[r.IntN(4)]
		held(t, scenario(floors, 1+r.IntN(60), segments...), api.Stream{Words: someWords(500, seed), At: r.IntN(3)})
	}
}

// P28.1: of many floors, of each template, at the ends of what words mean.
func TestWords(t *testing.T) {
	words := someWords(400, 1)
	for i := 0; i+4 < len(words); i += 5 {
		words[i], words[i+1], words[i+2], words[i+3] = 0, math.MaxUint32, 1<<31, 1<<31-1
	}
	for kind := api.UpPeak; kind <= api.Interfloor; kind++ {
		for _, floors := range []int{2, 3, 127, 128} {
			held(t, scenario(floors, 100, segment(kind, 8, 4000), segment(5-kind, 3, 2000)), api.Stream{Words: words})
		}
	}
}

// P28.1: a tick behind which a word isn't there comes to nothing, wherever that is.
func TestDry(t *testing.T) {
	words := someWords(60, 2)
	for n := range words {
		held(t, scenario(5, 90, segment(api.Lunch, 3, 0), segment(api.UpPeak, 5, 2500), segment(api.DownPeak, 2, 0), segment(api.Interfloor, 9, 1200)), api.Stream{Words: words[:n]})
		held(t, scenario(5, 90, segment(api.Interfloor, 15, 1200)), api.Stream{Words: words, At: n})
	}
	// Where no place is, no word is.
	for _, at := range []int{-1, 61, math.MinInt, math.MaxInt} {
		s := scenario(5, 90, segment(api.UpPeak, 2, 0), segment(api.UpPeak, 2, 1))
		stream := api.Stream{Words: words, At: at}
		if l, after, e := arrive.List(s, stream); len(l) != 0 || !reflect.DeepEqual(after, stream) || e != api.ErrDry {
			t.Errorf("List from %d: %v, %d, %d", at, l, after.At, int(e))
		}
		g, _ := arrive.Make(s, stream)
		for tick := range 5 {
			want := api.OK
			if tick >= 2 {
				want = api.ErrDry
			}
			if l, e := g.Next(); len(l) != 0 || e != want || g.Tick() != min(tick+1, 2) || g.Over() {
				t.Errorf("Next from %d: %v, %d", at, l, int(e))
			}
		}
	}
}

// P28.1: of a rate of 0 nobody comes, and no word is drawn, to the end of what there is.
func TestNobody(t *testing.T) {
	for _, stream := range []api.Stream{{}, {At: -5}, {Words: []uint32{1, 2}, At: 1}, {Words: []uint32{}, At: math.MaxInt}} {
		for _, horizon := range []int{1, 7, 8, 9, 1 << 20} {
			s := scenario(3, horizon, segment(api.UpPeak, 5, 0), segment(api.Lunch, 3, 0))
			if l, after, e := arrive.List(s, stream); len(l) != 0 || !reflect.DeepEqual(after, stream) || e != api.OK {
				t.Errorf("List: %v, %v, %d", l, after, int(e))
			}
			g, _ := arrive.Make(s, stream)
			for tick := range 10 {
				if g.Tick() != min(tick, horizon, 8) || g.Over() != (tick >= min(horizon, 8)) {
					t.Errorf("horizon %d, tick %d: %d, %v", horizon, tick, g.Tick(), g.Over())
				}
				if l, e := g.Next(); len(l) != 0 || e != api.OK {
					t.Errorf("horizon %d, tick %d: %v, %d", horizon, tick, l, int(e))
				}
			}
		}
	}
}

// P28.1, P28.2: of a scenario that may not be layer 20's error, and the stream.
func TestWrong(t *testing.T) {
	fine := segment(api.UpPeak, 2, 1000)
	stream := api.Stream{Words: someWords(50, 3), At: 4}
	for i, s := range []api.Scenario{
		{}, scenario(1, 9, fine), scenario(129, 9, fine), scenario(5, 0, fine), scenario(5, 1<<20+1, fine), scenario(5, 9), scenario(5, 9, slices.Repeat([]api.Segment{fine}, 9)...),
		scenario(5, 9, segment(0, 2, 1000)), scenario(5, 9, fine, segment(5, 2, 1000)), scenario(5, 9, segment(1, 0, 1000)), scenario(5, 9, segment(1, 2, -1)), scenario(5, 9, fine, segment(1, 2, 4001)), scenario(5, 9, segment(0, 0, 0)), scenario(0, 9, segment(0, 0, 0)),
	} {
		want := vet.Check(s)
		if g, e := arrive.Make(s, stream); g != nil || e != want || want == api.OK {
			t.Errorf("%d: Make: %v, %d; want %d", i, g, int(e), int(want))
		}
		if l, after, e := arrive.List(s, stream); len(l) != 0 || !reflect.DeepEqual(after, stream) || e != want {
			t.Errorf("%d: List: %v, %v, %d; want %d", i, l, after, int(e), int(want))
		}
	}
}

// most: how many come in a tick at most, at MaxRate.
func most() int {
	table, _ := cumul.Table(api.MaxRate)
	return draw.Of(table, math.MaxUint32)
}

// wordOf: a word that means so many, at MaxRate.
func wordOf(many int) uint32 {
	table, _ := cumul.Table(api.MaxRate)
	first, _ := draw.Span(table, many)
	return uint32(first)
}

// P28.1, P28.2: MaxPeople may come, and not one more; ahead of that a word must be there.
func TestSize(t *testing.T) {
	s := scenario(2, 1<<20, segment(api.Interfloor, 1<<20, 4000))
	ticks, rest := api.MaxPeople/most(), api.MaxPeople%most()
	// The words of a full tick, of one with those who lack yet, and of one in which one comes.
	full := slices.Repeat([]uint32{math.MaxUint32}, ticks*(most()+1))
	words := slices.Concat(full, []uint32{wordOf(rest)}, make([]uint32, rest), []uint32{wordOf(1)})
	for _, more := range [][]uint32{nil, {7}} {
		want := api.ErrDry
		if more != nil {
			want = api.ErrSize
		}
		g, e := arrive.Make(s, api.Stream{Words: append(words, more...)})
		if e != api.OK {
			t.Fatal(int(e))
		}
		came := 0
		for range ticks + 1 {
			l, e := g.Next()
			if e != api.OK || len(l) == 0 || l[0].Id != came {
				t.Fatal(len(l), int(e), came)
			}
			came += len(l)
		}
		if came != api.MaxPeople || g.Tick() != ticks+1 {
			t.Fatal(came, g.Tick())
		}
		if l, e := g.Next(); len(l) != 0 || e != want {
			t.Errorf("Next: %d, %d; want %d", len(l), int(e), int(want))
		}
	}
	last := s
	last.Horizon = ticks + 1
	if l, after, e := arrive.List(last, api.Stream{Words: words}); len(l) != api.MaxPeople || l[len(l)-1].Id != api.MaxPeople-1 || after.At != len(words)-1 || e != api.OK {
		t.Errorf("List: %d, %d, %d", len(l), after.At, int(e))
	}
	if l, after, e := arrive.List(s, api.Stream{Words: append(words, 7)}); len(l) != 0 || after.At != 0 || e != api.ErrSize {
		t.Errorf("List: %d, %d, %d", len(l), after.At, int(e))
	}
}

// Rule 5: what is handed in isn't changed and isn't kept, and what is answered is new.
func TestNew(t *testing.T) {
	s := scenario(5, 50, segment(api.UpPeak, 20, 2000), segment(api.Lunch, 20, 2000))
	words := someWords(300, 5)
	stream := api.Stream{Words: slices.Clone(words)}
	want, left, e := arrive.List(s, stream)
	if e != api.OK || !slices.Equal(stream.Words, words) {
		t.Fatal(int(e))
	}
	clear(left.Words)
	if !slices.Equal(stream.Words, words) {
		t.Error("List's stream isn't new")
	}
	if _, left, e := arrive.List(api.Scenario{}, stream); e != api.ErrBound || &left.Words[0] == &stream.Words[0] {
		t.Error("List's stream isn't new")
	}
	mine := s
	mine.Segments = slices.Clone(s.Segments)
	g, _ := arrive.Make(mine, stream)
	clear(mine.Segments)
	clear(stream.Words)
	var got []api.Passenger
	for !g.Over() {
		clear(g.Stream().Words)
		l, e := g.Next()
		if e != api.OK {
			t.Fatal(int(e))
		}
		got = append(got, l...)
		clear(l)
	}
	if !slices.Equal(got, want) || len(want) < 20 {
		t.Errorf("%v; want %v", got, want)
	}
}
