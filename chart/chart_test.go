package chart_test

import (
	"math"
	"math/rand/v2"
	"strings"
	"testing"

	"hoistway/api"
	"hoistway/chart"
	"hoistway/sample"
	"hoistway/track"
)

// P36.1
func TestTick(t *testing.T) {
	for _, c := range []struct{ col, cols, horizon, want int }{
		{0, 3, 10, 0}, {1, 3, 10, 3}, {2, 3, 10, 6}, {0, 1, 9, 0}, {199, 200, 1 << 20, 1043333}, {1, 200, 3, 0}, {67, 200, 3, 1}, {66, 200, 3, 0}, {4, 5, 5, 4}, {0, 0, 9, 0}, {3, 0, 9, 0}, {3, -1, 9, 0},
	} {
		if got := chart.Tick(c.col, c.cols, c.horizon); got != c.want {
			t.Errorf("Tick(%d, %d, %d): %d; want %d", c.col, c.cols, c.horizon, got, c.want)
		}
	}
}

// standing: cars that stay where they are.
func standing(pos ...int) [][]api.Leg {
	var legs [][]api.Leg
	for _, p := range pos {
		legs = append(legs, []api.Leg{{Pos: p}})
	}
	return legs
}

// P36.1
func TestRow(t *testing.T) {
	s := api.Scenario{Floors: 4, Gap: 3, Horizon: 8}
	up := []api.Leg{{Pos: 0, Dir: 1}}
	for _, c := range []struct {
		name        string
		legs        [][]api.Leg
		floor, cols int
		want        string
	}{
		{"no car", nil, 0, 3, "..."},
		{"no column", standing(0), 0, 0, ""},
		{"fewer than none", standing(0), 0, -1, ""},
		{"at the floor", standing(3), 1, 2, "00"},
		{"above it", standing(4), 1, 2, "00"},
		{"below the next one", standing(5), 1, 2, "00"},
		{"at the next one", standing(6), 1, 2, ".."},
		{"below it", standing(2), 1, 2, ".."},
		{"another one", standing(0, 3), 1, 2, "11"},
		{"two", standing(3, 5), 1, 2, "**"},
		{"three", standing(3, 5, 4), 1, 2, "**"},
		{"on its way", [][]api.Leg{up}, 0, 8, "000....."},
		{"on its way", [][]api.Leg{up}, 1, 8, "...000.."},
		{"on its way", [][]api.Leg{up}, 2, 8, "......00"},
		{"on its way, by fewer columns", [][]api.Leg{up}, 1, 3, "..0"},
		{"one on its way", [][]api.Leg{up, {{Pos: 3}}}, 1, 8, "111***11"},
		{"without a leg", [][]api.Leg{nil, {{Tick: 4, Pos: 3}}}, 1, 8, "....1111"},
		{"the tenth", standing(0, 0, 0, 0, 0, 0, 0, 0, 0, 3), 1, 1, "9"},
		{"the eleventh", standing(0, 0, 0, 0, 0, 0, 0, 0, 0, 0, 3), 1, 1, "a"},
		{"the sixteenth", standing(0, 0, 0, 0, 0, 0, 0, 0, 0, 0, 0, 0, 0, 0, 0, 3), 1, 1, "f"},
		{"no such floor", standing(0, 3), 9, 2, ".."},
		{"no such floor", standing(0, 3), -1, 2, ".."},
		{"no such floor", standing(0, 3), math.MaxInt, 2, ".."},
	} {
		if got := chart.Row(c.legs, s, c.floor, c.cols); got != c.want {
			t.Errorf("%s: %q; want %q", c.name, got, c.want)
		}
	}
}

// P36.1
func TestText(t *testing.T) {
	s := api.Scenario{Floors: 3, Gap: 2, Horizon: 6}
	legs := [][]api.Leg{{{Pos: 0, Dir: 1}}, {{Pos: 1}}}
	if got, e := chart.Text(legs, s, 6); got != "  2 ....00\n  1 ..00..\n  0 **1111\n" || e != api.OK {
		t.Errorf("%q, %v", got, e)
	}
	if got, e := chart.Text(nil, api.Scenario{Floors: 128, Gap: 1, Horizon: 1}, 1); !strings.HasPrefix(got, "127 .\n126 .\n") || !strings.HasSuffix(got, "\n 10 .\n  9 .\n  8 .\n  7 .\n  6 .\n  5 .\n  4 .\n  3 .\n  2 .\n  1 .\n  0 .\n") || strings.Count(got, "\n") != 128 || e != api.OK {
		t.Errorf("%q, %v", got, e)
	}
	// The chapter's example.
	if got, e := chart.Text([][]api.Leg{{{}}}, api.Scenario{Floors: 2, Gap: 1, Horizon: 4}, 2); got != "  1 ..\n  0 00\n" || e != api.OK {
		t.Errorf("%q, %v", got, e)
	}
}

// P36.1: how many columns there may be.
func TestColumns(t *testing.T) {
	s := api.Scenario{Floors: 2, Gap: 1, Horizon: 9}
	if chart.Most != 200 {
		t.Error(chart.Most)
	}
	for _, cols := range []int{1, 2, 199, 200} {
		if got, e := chart.Text(standing(0), s, cols); e != api.OK || got != "  1 "+strings.Repeat(".", cols)+"\n  0 "+strings.Repeat("0", cols)+"\n" {
			t.Errorf("%d columns: %q, %v", cols, got, e)
		}
	}
	for _, cols := range []int{math.MinInt, -1, 0, 201, math.MaxInt} {
		if got, e := chart.Text(standing(0), s, cols); e != api.ErrArg || got != "" {
			t.Errorf("%d columns: %q, %v", cols, got, e)
		}
	}
}

// P36.1: of drawn ways, mark by mark.
func TestDrawn(t *testing.T) {
	for seed := range uint64(1000) {
		r := rand.New(rand.NewPCG(seed, 36))
		s := api.Scenario{Floors: 2 + r.IntN(4), Gap: 1 + r.IntN(3), Horizon: 1 + r.IntN(60)}
		var legs [][]api.Leg
		for range r.IntN(4) {
			legs = append(legs, still(sample.Legs(r.IntN, r.IntN(9), r.IntN(5), s.Floors*s.Gap)))
		}
		cols := 1 + r.IntN(40)
		var want strings.Builder
		for floor := s.Floors - 1; floor >= 0; floor-- {
			want.WriteString("  " + string(rune('0'+floor)) + " ")
			for col := range cols {
				mark := "."
				for car, l := range legs {
					pos, _, ok := track.At(l, col*s.Horizon/cols)
					switch {
					case !ok || pos < floor*s.Gap || pos >= (floor+1)*s.Gap:
					case mark == ".":
						mark = string(rune('0' + car))
					default:
						mark = "*"
					}
				}
				want.WriteString(mark)
			}
			want.WriteString("\n")
		}
		if got, e := chart.Text(legs, s, cols); got != want.String() || e != api.OK {
			t.Fatalf("Text of %v, %v in %d: %q, %v; want %q", legs, s, cols, got, e, want.String())
		}
	}
}

// still: legs that go up, or stay, so that no place is below 0.
func still(l []api.Leg) []api.Leg {
	for i := range l {
		l[i].Dir = max(0, l[i].Dir)
	}
	return l
}

// P1: at any argument all of it ends.
func TestEnds(t *testing.T) {
	wild := [][]api.Leg{{{Tick: math.MaxInt, Door: true}, {Tick: math.MinInt}}, nil, {{Tick: math.MinInt, Pos: math.MinInt, Dir: math.MinInt}, {}}}
	for _, a := range []int{math.MinInt, -1, 0, 1, math.MaxInt} {
		for _, b := range []int{math.MinInt, -1, 0, 1, math.MaxInt} {
			chart.Tick(a, b, a)
			chart.Tick(b, a, a)
			chart.Row(wild, api.Scenario{Floors: a, Gap: b, Horizon: a}, b, 9)
			chart.Text(wild, api.Scenario{Floors: a, Gap: b, Horizon: b}, 9)
		}
		chart.Row(wild, api.Scenario{}, 0, a)
	}
}
