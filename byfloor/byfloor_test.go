package byfloor_test

import (
	"math"
	"math/rand/v2"
	"slices"
	"testing"

	"hoistway/api"
	"hoistway/byfloor"
	"hoistway/cols"
	"hoistway/digits"
	"hoistway/sample"
)

// waited: one who came at tick 3 to a floor, and waited for so long.
func waited(from, to, ticks int) api.Trip {
	return api.Trip{Arrive: 3, From: from, To: to, Board: 3 + ticks, Alight: -1}
}

// waits: one who waits yet.
func waits(from, to int) api.Trip {
	return api.Trip{Arrive: 3, From: from, To: to, Car: -1, Board: -1, Alight: -1}
}

// trips are of five rows, come in no order.
var trips = []api.Trip{waited(7, 2, 5), waits(2, 0), waited(2, 9, 4), waited(7, 6, 9), waited(2, 3, 0), waits(2, 1), waited(0, 127, 8), waited(7, 0, 1), waits(7, 3), waited(2, 2, 6)}

var rows = []byfloor.Row{
	{Key: byfloor.Key{Floor: 0, Dir: 1}, Came: 1, Served: 1, Sum: 8, Max: 8},
	{Key: byfloor.Key{Floor: 2, Dir: 1}, Came: 2, Served: 2, Sum: 4, Max: 4},
	{Key: byfloor.Key{Floor: 2, Dir: 0}, Came: 1, Served: 1, Sum: 6, Max: 6},
	{Key: byfloor.Key{Floor: 2, Dir: -1}, Came: 2},
	{Key: byfloor.Key{Floor: 7, Dir: -1}, Came: 4, Served: 3, Sum: 15, Max: 9},
}

// P70.1
func TestAll(t *testing.T) {
	if got := byfloor.All(trips); !slices.Equal(got, rows) {
		t.Errorf("%v; want %v", got, rows)
	}
	if len(byfloor.All(nil)) != 0 {
		t.Error("of none")
	}
}

// P70.1
func TestOf(t *testing.T) {
	for _, r := range rows {
		if got, ok := byfloor.Of(trips, r.Key); got != r || !ok {
			t.Errorf("Of %v: %v, %v; want %v", r.Key, got, ok, r)
		}
	}
	for _, k := range []byfloor.Key{{Floor: 0, Dir: -1}, {Floor: 0, Dir: 0}, {Floor: 7, Dir: 1}, {Floor: 3, Dir: 1}, {Floor: 127, Dir: -1}, {Floor: 2, Dir: 2}, {Floor: -1, Dir: 1}, {Floor: math.MinInt, Dir: math.MaxInt}} {
		if got, ok := byfloor.Of(trips, k); got != (byfloor.Row{}) || ok {
			t.Errorf("Of %v: %v, %v", k, got, ok)
		}
	}
	if got, ok := byfloor.Of(nil, byfloor.Key{}); got != (byfloor.Row{}) || ok {
		t.Errorf("Of none: %v, %v", got, ok)
	}
	// The chapter's example.
	key := byfloor.Key{Floor: 2, Dir: -1}
	if got, ok := byfloor.Of([]api.Trip{waited(2, 0, 5)}, key); got != (byfloor.Row{Key: key, Came: 1, Served: 1, Sum: 5, Max: 5}) || !ok {
		t.Errorf("%v, %v", got, ok)
	}
}

// P70.1
func TestWorst(t *testing.T) {
	for _, c := range []struct {
		name  string
		trips []api.Trip
		want  byfloor.Row
		ok    bool
	}{
		{"none", nil, byfloor.Row{}, false},
		{"nobody got in", []api.Trip{waits(1, 2), waits(3, 2)}, byfloor.Row{}, false},
		{"all", trips, rows[4], true},
		{"the first of several", []api.Trip{waited(4, 5, 3), waited(1, 0, 3), waited(1, 2, 2)}, byfloor.Row{Key: byfloor.Key{Floor: 1, Dir: -1}, Came: 1, Served: 1, Sum: 3, Max: 3}, true},
		{"the first of several of a floor", []api.Trip{waited(1, 0, 3), waited(1, 2, 3)}, byfloor.Row{Key: byfloor.Key{Floor: 1, Dir: 1}, Came: 1, Served: 1, Sum: 3, Max: 3}, true},
		{"who waited for nothing", []api.Trip{waits(0, 1), waited(1, 0, 0), waits(2, 0)}, byfloor.Row{Key: byfloor.Key{Floor: 1, Dir: -1}, Came: 1, Served: 1}, true},
		{"not by the sum", []api.Trip{waited(1, 0, 3), waited(1, 0, 3), waited(2, 0, 4)}, byfloor.Row{Key: byfloor.Key{Floor: 2, Dir: -1}, Came: 1, Served: 1, Sum: 4, Max: 4}, true},
	} {
		if got, ok := byfloor.Worst(c.trips); got != c.want || ok != c.ok {
			t.Errorf("%s: %v, %v; want %v", c.name, got, ok, c.want)
		}
	}
}

// P70.2
func TestText(t *testing.T) {
	const want = `floor   way  came  in  sum  max
0        up     1   1    8    8
2        up     2   2    4    4
2      down     1   1    6    6
2      down     2   0    0    0
7      down     4   3   15    9
`
	if got := byfloor.Text(trips); got != want {
		t.Errorf("%q; want %q", got, want)
	}
	if got := byfloor.Text(nil); got != "floor  way  came  in  sum  max\n" {
		t.Errorf("%q", got)
	}
}

// P70.1, P70.2: of drawn trips, row by row.
func TestDrawn(t *testing.T) {
	for seed := range uint64(1000) {
		r := rand.New(rand.NewPCG(seed, 70))
		l := sample.Trips(r.IntN, r.IntN(40), 1+r.IntN(6), 2, 30)
		before := slices.Clone(l)
		var want []byfloor.Row
		texts := [][]string{{"floor", "way", "came", "in", "sum", "max"}}
		var worst byfloor.Row
		for floor := range 6 {
			for dir := 1; dir >= -1; dir-- {
				row := byfloor.Row{Key: byfloor.Key{Floor: floor, Dir: dir}}
				for _, x := range l {
					if x.From != floor || dir > 0 != (x.To > x.From) || dir < 0 != (x.To < x.From) {
						continue
					}
					row.Came++
					if x.Board >= 0 {
						row.Served++
						row.Sum += x.Board - x.Arrive
						row.Max = max(row.Max, x.Board-x.Arrive)
					}
				}
				if row.Came == 0 {
					continue
				}
				want = append(want, row)
				texts = append(texts, []string{digits.Of(floor), map[bool]string{true: "up", false: "down"}[dir > 0], digits.Of(row.Came), digits.Of(row.Served), digits.Of(row.Sum), digits.Of(row.Max)})
				if row.Served > 0 && (worst.Served == 0 || row.Max > worst.Max) {
					worst = row
				}
			}
		}
		if got := byfloor.All(l); !slices.Equal(got, want) {
			t.Fatalf("All(%v): %v; want %v", l, got, want)
		}
		if got, ok := byfloor.Worst(l); got != worst || ok != (worst.Served > 0) {
			t.Fatalf("Worst(%v): %v, %v; want %v", l, got, ok, worst)
		}
		if got := byfloor.Text(l); got != cols.Text(texts) {
			t.Fatalf("Text(%v): %q; want %q", l, got, cols.Text(texts))
		}
		if !slices.Equal(l, before) {
			t.Fatal("the trips are changed")
		}
	}
}

// P1: at any argument all of it ends.
func TestEnds(t *testing.T) {
	var l []api.Trip
	for _, a := range []int{math.MinInt, -1, 0, 1, math.MaxInt} {
		for _, b := range []int{math.MinInt, 0, math.MaxInt} {
			l = append(l, api.Trip{From: a, To: b, Arrive: b, Board: a})
		}
	}
	byfloor.All(l)
	byfloor.Of(l, byfloor.Key{Floor: math.MinInt, Dir: 1})
	byfloor.Worst(l)
	byfloor.Text(l)
}
