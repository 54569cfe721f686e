package rank_test

import (
	"math"
	"math/big"
	"slices"
	"testing"

	"hoistway/api"
	"hoistway/rank"
)

// wrongPs: of these there is no percentile.
func wrongPs() []int {
	return []int{0, -1, -50, 101, 102, 1000, 1<<32 + 50, math.MinInt, math.MaxInt}
}

// rows: some numbers, in several orders.
func rows() [][]int {
	l := [][]int{{7}, {3, 1, 2}, {5, 5, 5}, {2, 1, 2, 1, 3}, {-5, 5, 0}, {math.MaxInt, math.MinInt, 0}, {math.MaxInt}, {math.MinInt, math.MinInt}}
	for _, many := range []int{2, 4, 10, 99, 100, 101, 200, 333} {
		var row []int
		for i := range many {
			row = append(row, (i*7919+13)%(many+3)-5)
		}
		l = append(l, row)
	}
	return l
}

// P15.1
func TestBelow(t *testing.T) {
	for _, c := range []struct {
		n    int
		l    []int
		want int
	}{
		{2, []int{3, 1, 2}, 2}, {0, []int{3, 1, 2}, 0}, {3, []int{3, 1, 2}, 3}, {4, []int{3, 1, 2}, 3}, {1, []int{3, 1, 2}, 1}, {5, []int{5, 5, 5, 6}, 3}, {4, []int{5, 5}, 0}, {0, nil, 0}, {math.MaxInt, nil, 0},
		{math.MinInt, []int{math.MinInt, 0}, 1}, {math.MaxInt, []int{math.MaxInt, math.MinInt, 0}, 3}, {math.MinInt, []int{math.MaxInt}, 0}, {math.MaxInt - 1, []int{math.MaxInt}, 0}, {-1, []int{-1, -2, 0}, 2},
	} {
		as := slices.Clone(c.l)
		if got := rank.Below(c.n, c.l...); got != c.want || !slices.Equal(c.l, as) {
			t.Errorf("Below(%d, %v): %d; want %d", c.n, as, got, c.want)
		}
	}
}

// placed: p times many over 100, rounded up, in numbers of any size.
func placed(p, many int) int {
	n := new(big.Int).Mul(big.NewInt(int64(p)), big.NewInt(int64(many)))
	n.Add(n, big.NewInt(99))
	return int(n.Quo(n, big.NewInt(100)).Int64())
}

// P15.1
func TestPlace(t *testing.T) {
	for _, c := range []struct{ p, many, want int }{
		{50, 3, 2}, {1, 1, 1}, {100, 1, 1}, {1, 100, 1}, {1, 101, 2}, {99, 100, 99}, {100, 100, 100}, {50, 2, 1}, {51, 2, 2}, {95, 20, 19}, {95, 21, 20}, {90, 10, 9}, {91, 10, 10}, {100, math.MaxInt, math.MaxInt}, {50, math.MaxInt, 1 << 62}, {1, math.MaxInt, 92233720368547759},
	} {
		if got, e := rank.Place(c.p, c.many); got != c.want || e != api.OK {
			t.Errorf("Place(%d, %d): %d, %d; want %d", c.p, c.many, got, int(e), c.want)
		}
	}
	for p := 1; p <= 100; p++ {
		for _, many := range []int{1, 2, 3, 49, 50, 51, 99, 100, 101, 1000, 12345, 1 << 32, math.MaxInt / 100, math.MaxInt/100 + 1, math.MaxInt - 99, math.MaxInt - 1, math.MaxInt} {
			if got, e := rank.Place(p, many); got != placed(p, many) || e != api.OK {
				t.Errorf("Place(%d, %d): %d, %d; want %d", p, many, got, int(e), placed(p, many))
			}
		}
		for _, many := range []int{0, -1, -100, math.MinInt} {
			if got, e := rank.Place(p, many); got != 0 || e != api.ErrArg {
				t.Errorf("Place(%d, %d): %d, %d", p, many, got, int(e))
			}
		}
	}
	for _, p := range wrongPs() {
		for _, many := range []int{1, 100, math.MaxInt, 0, -1} {
			if got, e := rank.Place(p, many); got != 0 || e != api.ErrArg {
				t.Errorf("Place(%d, %d): %d, %d", p, many, got, int(e))
			}
		}
	}
}

// percentile: the least of the numbers of which so many at least are no greater, by the document's words.
func percentile(p int, l []int) int {
	place := placed(p, len(l))
	least, ok := 0, false
	for _, n := range l {
		many := 0
		for _, other := range l {
			if other <= n {
				many++
			}
		}
		if many >= place && (!ok || n < least) {
			least, ok = n, true
		}
	}
	return least
}

// P15.1
func TestOf(t *testing.T) {
	for _, c := range []struct {
		p    int
		l    []int
		want int
	}{
		{50, []int{3, 1, 2}, 2}, {1, []int{3, 1, 2}, 1}, {33, []int{3, 1, 2}, 1}, {34, []int{3, 1, 2}, 2}, {66, []int{3, 1, 2}, 2}, {67, []int{3, 1, 2}, 3}, {100, []int{3, 1, 2}, 3}, {50, []int{1, 2}, 1}, {51, []int{1, 2}, 2},
		{50, []int{9, 1, 1, 1}, 1}, {75, []int{9, 1, 1, 1}, 1}, {76, []int{9, 1, 1, 1}, 9}, {1, []int{math.MaxInt}, math.MaxInt}, {100, []int{math.MinInt}, math.MinInt},
	} {
		if got, e := rank.Of(c.p, c.l...); got != c.want || e != api.OK {
			t.Errorf("Of(%d, %v): %d, %d; want %d", c.p, c.l, got, int(e), c.want)
		}
	}
	for _, l := range rows() {
		as := slices.Clone(l)
		for p := 1; p <= 100; p++ {
			if got, e := rank.Of(p, l...); got != percentile(p, l) || e != api.OK {
				t.Errorf("Of(%d, %v): %d, %d; want %d", p, l, got, int(e), percentile(p, l))
			}
		}
		if !slices.Equal(l, as) {
			t.Error("the numbers are others")
		}
		for _, p := range wrongPs() {
			if got, e := rank.Of(p, l...); got != 0 || e != api.ErrArg {
				t.Errorf("Of(%d, %v): %d, %d", p, l, got, int(e))
			}
		}
	}
	for _, p := range append(wrongPs(), 1, 50, 100) {
		if got, e := rank.Of(p); got != 0 || e != api.ErrArg {
			t.Errorf("Of(%d) of none: %d, %d", p, got, int(e))
		}
	}
}

// P15.1
func TestMany(t *testing.T) {
	for _, l := range rows() {
		as := slices.Clone(l)
		for _, ps := range [][]int{nil, {}, {50}, {100, 1}, {50, 90, 95, 100}, {7, 7, 7}, {100, 99, 50, 2, 1, 50}} {
			psAs := slices.Clone(ps)
			var want []int
			for _, p := range ps {
				want = append(want, percentile(p, l))
			}
			if got, e := rank.Many(ps, l...); e != api.OK || !slices.Equal(got, want) || !slices.Equal(l, as) || !slices.Equal(ps, psAs) {
				t.Errorf("Many(%v, %v): %v, %d; want %v", psAs, as, got, int(e), want)
			}
		}
		for _, p := range wrongPs() {
			for _, ps := range [][]int{{p}, {50, p}, {p, 50}, {1, p, 100}} {
				if got, e := rank.Many(ps, l...); len(got) != 0 || e != api.ErrArg {
					t.Errorf("Many(%v, %v): %v, %d", ps, l, got, int(e))
				}
			}
		}
	}
	for _, ps := range [][]int{{50}, {1, 100}, {0}, {50, 101}} {
		if got, e := rank.Many(ps); len(got) != 0 || e != api.ErrArg {
			t.Errorf("Many(%v) of none: %v, %d", ps, got, int(e))
		}
	}
	// None of no percentiles isn't there.
	if got, e := rank.Many(nil); len(got) != 0 || e != api.OK {
		t.Errorf("Many of nothing: %v, %d", got, int(e))
	}
}

// Rule 5: what is answered is new.
func TestManyIsNew(t *testing.T) {
	ps, l := []int{1, 100}, []int{1, 2}
	got, _ := rank.Many(ps, l...)
	got[0] = 99
	if !slices.Equal(ps, []int{1, 100}) || !slices.Equal(l, []int{1, 2}) {
		t.Error(ps, l)
	}
}

// P15.2
func TestEnds(t *testing.T) {
	for _, c := range []struct {
		l               []int
		least, greatest int
	}{
		{[]int{7}, 7, 7}, {[]int{3, 1, 2}, 1, 3}, {[]int{1, 2, 3}, 1, 3}, {[]int{3, 2, 1}, 1, 3}, {[]int{-5, -9, -7}, -9, -5}, {[]int{0, 5}, 0, 5}, {[]int{-5, 0}, -5, 0}, {[]int{0}, 0, 0},
		{[]int{math.MaxInt, math.MinInt}, math.MinInt, math.MaxInt}, {[]int{math.MaxInt}, math.MaxInt, math.MaxInt}, {[]int{math.MinInt}, math.MinInt, math.MinInt}, {[]int{4, 4, 4}, 4, 4},
	} {
		as := slices.Clone(c.l)
		if least, greatest, ok := rank.Ends(c.l...); least != c.least || greatest != c.greatest || !ok || !slices.Equal(c.l, as) {
			t.Errorf("Ends(%v): %d, %d, %v", as, least, greatest, ok)
		}
	}
	if least, greatest, ok := rank.Ends(); least != 0 || greatest != 0 || ok {
		t.Errorf("Ends of none: %d, %d, %v", least, greatest, ok)
	}
}
