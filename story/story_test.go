package story_test

import (
	"cmp"
	"math"
	"math/rand/v2"
	"slices"
	"strings"
	"testing"

	"hoistway/api"
	"hoistway/sample"
	"hoistway/story"
	"hoistway/track"
)

// P66.1
func TestCompare(t *testing.T) {
	// Rising, each thing of more weight than all those behind it.
	rising := []story.Event{
		{Tick: math.MinInt, Kind: 9, Car: 9, Id: 9},
		{Tick: 0, Kind: -1, Car: 9, Id: 9},
		{Tick: 0, Kind: story.Comes, Car: 9, Id: 9},
		{Tick: 0, Kind: story.Opens, Car: -1, Id: 9},
		{Tick: 0, Kind: story.Opens, Car: 2, Id: -7},
		{Tick: 0, Kind: story.Opens, Car: 2, Id: 7},
		{Tick: 0, Kind: story.Opens, Car: 3, Id: 1},
		{Tick: 0, Kind: story.Out},
		{Tick: 0, Kind: story.In},
		{Tick: 0, Kind: story.Closes},
		{Tick: 0, Kind: 6},
		{Tick: 1},
		{Tick: math.MaxInt, Kind: math.MinInt, Car: math.MinInt, Id: math.MinInt},
	}
	for i, a := range rising {
		for j, b := range rising {
			if got := story.Compare(a, b); got != cmp.Compare(i, j) {
				t.Errorf("Compare(%v, %v): %d", a, b, got)
			}
		}
	}
	if story.Comes != 1 || story.Opens != 2 || story.Out != 3 || story.In != 4 || story.Closes != 5 {
		t.Error("kinds")
	}
}

// P66.1
func TestOf(t *testing.T) {
	l := api.Log{
		Trips: []api.Trip{
			{Id: 0, Arrive: 9, From: 1, To: 2, Car: -1, Board: -1, Alight: -1},
			{Id: 1, Arrive: 2, Car: 3, Board: 4, Alight: -1},
			{Id: 2, Arrive: 2, Car: 1, Board: 4, Alight: 9},
			{Id: 3, Arrive: 0, Car: 0, Board: 0, Alight: 0},
		},
		Legs: [][]api.Leg{{{Door: true}, {Tick: 4}, {Tick: 7, Door: true}}, nil, {{}, {Tick: 4, Door: true}, {Tick: 9}}},
	}
	want := []story.Event{
		{Tick: 0, Kind: story.Comes, Id: 3},
		{Tick: 0, Kind: story.Opens, Car: 0},
		{Tick: 0, Kind: story.Out, Car: 0, Id: 3},
		{Tick: 0, Kind: story.In, Car: 0, Id: 3},
		{Tick: 2, Kind: story.Comes, Id: 1},
		{Tick: 2, Kind: story.Comes, Id: 2},
		{Tick: 4, Kind: story.Opens, Car: 2},
		{Tick: 4, Kind: story.In, Car: 1, Id: 2},
		{Tick: 4, Kind: story.In, Car: 3, Id: 1},
		{Tick: 4, Kind: story.Closes, Car: 0},
		{Tick: 7, Kind: story.Opens, Car: 0},
		{Tick: 9, Kind: story.Comes, Id: 0},
		{Tick: 9, Kind: story.Out, Car: 1, Id: 2},
		{Tick: 9, Kind: story.Closes, Car: 2},
	}
	if got := story.Of(l, 10); !slices.Equal(got, want) {
		t.Errorf("%v; want %v", got, want)
	}
	// A door that closes at the horizon closes no more; of passengers all is told.
	if got := story.Of(l, 9); !slices.Equal(got, want[:13]) {
		t.Errorf("%v; want %v", got, want[:13])
	}
	trips := slices.DeleteFunc(slices.Clone(want), func(e story.Event) bool { return e.Kind == story.Opens || e.Kind == story.Closes })
	for _, horizon := range []int{math.MinInt, -1, 0} {
		if got := story.Of(l, horizon); !slices.Equal(got, trips) {
			t.Errorf("%v; want %v", got, trips)
		}
	}
	if len(story.Of(api.Log{}, 9)) != 0 {
		t.Error("of nothing")
	}
}

// P66.1: of drawn logs, tick by tick.
func TestDrawn(t *testing.T) {
	for seed := range uint64(1000) {
		r := rand.New(rand.NewPCG(seed, 66))
		l := api.Log{Trips: sample.Trips(r.IntN, r.IntN(12), 4, 3, 30)}
		for range 3 {
			l.Legs = append(l.Legs, sample.Legs(r.IntN, r.IntN(9), 0, 3))
		}
		horizon := r.IntN(40) - 1
		var want []story.Event
		for _, x := range l.Trips {
			want = append(want, story.Event{Tick: x.Arrive, Kind: story.Comes, Id: x.Id})
			if x.Board >= 0 {
				want = append(want, story.Event{Tick: x.Board, Kind: story.In, Car: x.Car, Id: x.Id})
			}
			if x.Alight >= 0 {
				want = append(want, story.Event{Tick: x.Alight, Kind: story.Out, Car: x.Car, Id: x.Id})
			}
		}
		for tick := range horizon {
			for car, legs := range l.Legs {
				_, before, _ := track.At(legs, tick-1)
				_, now, _ := track.At(legs, tick)
				switch {
				case now && !before:
					want = append(want, story.Event{Tick: tick, Kind: story.Opens, Car: car})
				case before && !now:
					want = append(want, story.Event{Tick: tick, Kind: story.Closes, Car: car})
				}
			}
		}
		slices.SortFunc(want, story.Compare)
		got := story.Of(l, horizon)
		if !slices.Equal(got, want) {
			t.Fatalf("Of(%v, %d): %v; want %v", l, horizon, got, want)
		}
		if back, bad := story.Read(story.Text(got)); bad != (api.Problem{}) || !slices.Equal(back, got) {
			t.Fatalf("Read of Text of %v: %v, %v", got, back, bad)
		}
	}
}

// P66.2
func TestText(t *testing.T) {
	l := []story.Event{{Tick: 1, Kind: story.Comes, Id: 7}, {Tick: 20, Kind: story.Opens, Car: 3}, {Tick: 300, Kind: story.Out, Car: 15, Id: 8}, {Kind: story.In}, {Tick: -4, Kind: story.Closes, Car: -5, Id: -6}}
	const want = "1 comes 0 7\n20 opens 3 0\n300 out 15 8\n0 in 0 0\n-4 closes -5 -6\n"
	if got := story.Text(l); got != want {
		t.Errorf("%q; want %q", got, want)
	}
	for _, kind := range []story.Kind{0, -1, 6, math.MinInt, math.MaxInt} {
		none := story.Event{Tick: 5, Kind: kind}
		if got := story.Text([]story.Event{none, l[0], none}); got != "1 comes 0 7\n" {
			t.Errorf("of kind %d: %q", kind, got)
		}
	}
	if got := story.Text(nil); got != "" {
		t.Errorf("of none: %q", got)
	}
}

// P66.2
func TestRead(t *testing.T) {
	in := story.Event{Tick: 5, Kind: story.In, Id: 3}
	for _, c := range []struct {
		text string
		want []story.Event
	}{
		{"", nil},
		{"\n\n \n# nothing\n", nil},
		{"5 in 0 3", []story.Event{in}},
		{"5 in 0 3\n", []story.Event{in}},
		{"\n\t5  in 0 3 \r\n\n# more\n5 in 0 3 # again", []story.Event{in, in}},
		{"5in0 3", []story.Event{in}},
		{"9 comes 0 1\n1 opens 2 0\n0 out 3 4\n7 closes 5 6\n", []story.Event{{Tick: 9, Kind: story.Comes, Id: 1}, {Tick: 1, Kind: story.Opens, Car: 2}, {Kind: story.Out, Car: 3, Id: 4}, {Tick: 7, Kind: story.Closes, Car: 5, Id: 6}}},
		{"9 comes 8 7\n9 opens 8 7\n", []story.Event{{Tick: 9, Kind: story.Comes, Car: 8, Id: 7}, {Tick: 9, Kind: story.Opens, Car: 8, Id: 7}}},
		{"1073741824 in 1073741824 1073741824", []story.Event{{Tick: 1 << 30, Kind: story.In, Car: 1 << 30, Id: 1 << 30}}},
	} {
		if got, bad := story.Read(c.text); bad != (api.Problem{}) || !slices.Equal(got, c.want) {
			t.Errorf("%q: %v, %v; want %v", c.text, got, bad, c.want)
		}
	}
}

// P66.2: texts in which something is wrong.
func TestWrong(t *testing.T) {
	for _, c := range []struct {
		text string
		want api.Problem
	}{
		{"5", api.Problem{Code: api.ErrForm, Line: 1, Col: 1}},
		{"in", api.Problem{Code: api.ErrForm, Line: 1, Col: 1}},
		{"5 in", api.Problem{Code: api.ErrForm, Line: 1, Col: 1}},
		{"5 in 0", api.Problem{Code: api.ErrForm, Line: 1, Col: 1}},
		{"5 in 0 3 1", api.Problem{Code: api.ErrForm, Line: 1, Col: 1}},
		{"5 in 0 3 in", api.Problem{Code: api.ErrForm, Line: 1, Col: 1}},
		{"in 5 0 3", api.Problem{Code: api.ErrForm, Line: 1, Col: 1}},
		{"5 0 in 3", api.Problem{Code: api.ErrForm, Line: 1, Col: 1}},
		{"5 4 0 3", api.Problem{Code: api.ErrForm, Line: 1, Col: 1}},
		{"in in 0 3", api.Problem{Code: api.ErrForm, Line: 1, Col: 1}},
		{"5 in in 3", api.Problem{Code: api.ErrForm, Line: 1, Col: 1}},
		{"5 in 0 in", api.Problem{Code: api.ErrForm, Line: 1, Col: 1}},
		{"5 ins 0 3", api.Problem{Code: api.ErrForm, Line: 1, Col: 1}},
		{"5 i 0 3", api.Problem{Code: api.ErrForm, Line: 1, Col: 1}},
		{"5 in 0 3\n\n   5 gone 0 3\n5", api.Problem{Code: api.ErrForm, Line: 3, Col: 4}},
		{"5 in 0\n3", api.Problem{Code: api.ErrForm, Line: 1, Col: 1}},
		{"-5 in 0 3", api.Problem{Code: api.ErrByte, Line: 1, Col: 1}},
		{"5 In 0 3", api.Problem{Code: api.ErrByte, Line: 1, Col: 3}},
		{"5 in 0 03", api.Problem{Code: api.ErrNum, Line: 1, Col: 8}},
		{"5 in 0 1073741825", api.Problem{Code: api.ErrNum, Line: 1, Col: 8}},
		{"5\n5 in 0 -3", api.Problem{Code: api.ErrByte, Line: 2, Col: 8}},
		{strings.Repeat(" ", api.MaxText+1), api.Problem{Code: api.ErrSize, Line: 1, Col: 1}},
		{"!" + strings.Repeat(" ", api.MaxText), api.Problem{Code: api.ErrSize, Line: 1, Col: 1}},
	} {
		if got, bad := story.Read(c.text); bad != c.want || len(got) != 0 {
			t.Errorf("%.40q: %v, %v; want %v", c.text, got, bad, c.want)
		}
	}
	if got, bad := story.Read("5 in 0 3" + strings.Repeat(" ", api.MaxText-8)); bad != (api.Problem{}) || len(got) != 1 {
		t.Errorf("a text as long as may be: %v, %v", got, bad)
	}
}

// P1: at any argument all of it ends.
func TestEnds(t *testing.T) {
	wild := [][]api.Leg{{{Tick: math.MaxInt, Door: true}, {Tick: math.MinInt, Door: true}}, nil, {{Tick: math.MinInt, Door: true}, {}}}
	trips := []api.Trip{{Id: math.MinInt, Arrive: math.MinInt, Board: math.MaxInt, Alight: math.MaxInt}}
	for _, horizon := range []int{math.MinInt, -1, 0, 1, math.MaxInt} {
		story.Text(story.Of(api.Log{Trips: trips, Legs: wild}, horizon))
	}
}
