package demand_test

import (
	"math"
	"slices"
	"testing"

	"hoistway/api"
	"hoistway/demand"
	"hoistway/grid"
)

const (
	upPeak     = api.UpPeak
	lunch      = api.Lunch
	downPeak   = api.DownPeak
	interfloor = api.Interfloor
)

func templates() []api.Template {
	return []api.Template{upPeak, lunch, downPeak, interfloor}
}

// weight: by the document's words.
func weight(t api.Template, from, to int) int {
	if from == to {
		return 0
	}
	switch t {
	case interfloor:
		return 1
	case upPeak:
		if from == 0 {
			return 10
		}
	case downPeak:
		if to == 0 {
			return 10
		}
	case lunch:
		if from == 0 || to == 0 {
			return 5
		}
	}
	if from == 0 || to == 0 {
		return 1
	}
	return 0
}

// P21.1
func TestGrid(t *testing.T) {
	for _, template := range templates() {
		for _, floors := range []int{2, 3, 4, 7, 20, 127, 128} {
			g, e := demand.Grid(template, floors)
			if e != api.OK || g == nil {
				t.Fatalf("Grid(%d, %d): %v, %d", template, floors, g, int(e))
			}
			sum, some := 0, 0
			for from := -1; from <= floors; from++ {
				for to := -1; to <= floors; to++ {
					want := 0
					if min(from, to) >= 0 && max(from, to) < floors {
						want = weight(template, from, to)
					}
					if got := g.Get(api.Cell{From: from, To: to}); got != want {
						t.Fatalf("Grid(%d, %d) of %d to %d: %d; want %d", template, floors, from, to, got, want)
					}
					sum += want
					if want != 0 {
						some++
					}
				}
			}
			if g.Len() != some {
				t.Errorf("Grid(%d, %d): %d pairs; want %d", template, floors, g.Len(), some)
			}
			if total, e := demand.Total(template, floors); total != sum || e != api.OK {
				t.Errorf("Total(%d, %d): %d, %d; want %d", template, floors, total, int(e), sum)
			}
		}
	}
}

// P21.1
func TestTotal(t *testing.T) {
	for _, c := range []struct {
		t             api.Template
		floors, total int
	}{
		{upPeak, 3, 22}, {downPeak, 3, 22}, {lunch, 3, 20}, {interfloor, 3, 6}, {upPeak, 2, 11}, {downPeak, 2, 11}, {lunch, 2, 10}, {interfloor, 2, 2}, {upPeak, 128, 1397}, {interfloor, 128, 16256},
	} {
		if n, e := demand.Total(c.t, c.floors); n != c.total || e != api.OK {
			t.Errorf("Total(%d, %d): %d, %d", c.t, c.floors, n, int(e))
		}
	}
}

// P21.1, P21.2: ErrWord comes ahead of ErrArg.
func TestWrong(t *testing.T) {
	for _, template := range []api.Template{0, 1, 2, 3, 4, 5, -1, math.MinInt, math.MaxInt, 1<<32 + 1} {
		for _, floors := range []int{2, 128, 1, 0, -1, 129, math.MinInt, math.MaxInt, 1<<32 + 2} {
			want := api.OK
			if floors < 2 || floors > 128 {
				want = api.ErrArg
			}
			if template < 1 || template > 4 {
				want = api.ErrWord
			}
			if want == api.OK {
				continue
			}
			if g, e := demand.Grid(template, floors); g != nil || e != want {
				t.Errorf("Grid(%d, %d): %v, %d; want %d", template, floors, g, int(e), int(want))
			}
			if n, e := demand.Total(template, floors); n != 0 || e != want {
				t.Errorf("Total(%d, %d): %d, %d; want %d", template, floors, n, int(e), int(want))
			}
			if c, e := demand.Pair(template, floors, 1<<31); c != (api.Cell{}) || e != want {
				t.Errorf("Pair(%d, %d): %v, %d; want %d", template, floors, c, int(e), int(want))
			}
		}
	}
}

// plain: by the document's words: which pair of some, with weights, a word means.
func plain(all []api.Weight, w uint32) api.Cell {
	total := 0
	for _, x := range all {
		total += x.N
	}
	n, together := int(uint64(w)*uint64(total)>>32), 0
	for _, x := range all {
		if together += x.N; together > n {
			return x.Cell
		}
	}
	return api.Cell{From: -1}
}

func someWords() []uint32 {
	l := []uint32{0, 1, 1<<31 - 1, 1 << 31, math.MaxUint32 - 1, math.MaxUint32}
	for i := range uint32(50) {
		l = append(l, i*85899345, i*i*1717987)
	}
	return l
}

// P21.2
func TestPair(t *testing.T) {
	for _, c := range []struct {
		t        api.Template
		floors   int
		w        uint32
		from, to int
	}{
		{upPeak, 2, 0, 0, 1}, {upPeak, 2, math.MaxUint32, 1, 0}, {upPeak, 3, 1 << 31, 0, 2}, {upPeak, 3, math.MaxUint32, 2, 0}, {downPeak, 3, 0, 0, 1}, {downPeak, 3, 1 << 31, 1, 0}, {lunch, 3, 1 << 31, 1, 0}, {lunch, 3, 1<<31 - 1, 0, 2}, {interfloor, 3, 0, 0, 1}, {interfloor, 3, 1 << 31, 1, 2}, {interfloor, 128, math.MaxUint32, 127, 126},
	} {
		if got, e := demand.Pair(c.t, c.floors, c.w); got != (api.Cell{From: c.from, To: c.to}) || e != api.OK {
			t.Errorf("Pair(%d, %d, %d): %v, %d; want %d to %d", c.t, c.floors, c.w, got, int(e), c.from, c.to)
		}
	}
	for _, template := range templates() {
		for _, floors := range []int{2, 3, 5, 128} {
			var all []api.Weight
			for from := range floors {
				for to := range floors {
					if n := weight(template, from, to); n > 0 {
						all = append(all, api.Weight{Cell: api.Cell{From: from, To: to}, N: n})
					}
				}
			}
			g, _ := demand.Grid(template, floors)
			for _, w := range someWords() {
				want := plain(all, w)
				if got, e := demand.Pair(template, floors, w); got != want || e != api.OK {
					t.Fatalf("Pair(%d, %d, %d): %v, %d; want %v", template, floors, w, got, int(e), want)
				}
				if got, e := demand.Of(g, w); got != want || e != api.OK {
					t.Fatalf("Of(%d, %d; %d): %v, %d; want %v", template, floors, w, got, int(e), want)
				}
			}
		}
	}
}

func made(l ...api.Weight) *grid.Grid {
	g := &grid.Grid{}
	for _, x := range l {
		g.Set(x.Cell, x.N)
	}
	return g
}

func weighs(from, to, n int) api.Weight {
	return api.Weight{Cell: api.Cell{From: from, To: to}, N: n}
}

// P21.2: of any grid.
func TestOf(t *testing.T) {
	all := []api.Weight{weighs(math.MinInt, 3, 2), weighs(-5, -5, 7), weighs(0, 0, 1), weighs(0, 9, 3), weighs(200, 1, 1<<31-13)}
	mixed := slices.Clone(all)
	slices.Reverse(mixed)
	g := made(mixed...)
	for _, w := range append(someWords(), 2, 3, 4, 12, 13, 16, 17, 18, 20, 24, 25, 26, 27, 28) {
		if got, e := demand.Of(g, w); got != plain(all, w) || e != api.OK {
			t.Errorf("Of(%d): %v, %d; want %v", w, got, int(e), plain(all, w))
		}
	}
	if !slices.Equal(g.All(), all) {
		t.Error(g.All())
	}
	for _, c := range []struct {
		g    *grid.Grid
		want api.Errno
	}{
		{nil, api.ErrArg}, {made(), api.ErrArg}, {made(weighs(1, 2, 0)), api.ErrArg}, {made(weighs(1, 2, -1)), api.ErrArg}, {made(weighs(1, 2, 5), weighs(2, 1, -1)), api.ErrArg}, {made(weighs(1, 2, 1<<31), weighs(2, 1, -1)), api.ErrArg},
		{made(weighs(1, 2, 1<<31+1)), api.ErrSize}, {made(weighs(1, 2, 1<<31), weighs(2, 1, 1)), api.ErrSize}, {made(weighs(1, 2, math.MaxInt), weighs(2, 1, math.MaxInt), weighs(3, 1, 2)), api.ErrSize},
	} {
		for _, w := range someWords() {
			if got, e := demand.Of(c.g, w); got != (api.Cell{}) || e != c.want {
				t.Errorf("Of(%v, %d): %v, %d; want %d", c.g, w, got, int(e), int(c.want))
			}
		}
	}
}

// Rule 5: each grid is a new one.
func TestNew(t *testing.T) {
	g, _ := demand.Grid(upPeak, 3)
	g.Set(api.Cell{From: 0, To: 1}, 500)
	if n, e := demand.Total(upPeak, 3); n != 22 || e != api.OK {
		t.Error(n, int(e))
	}
}
