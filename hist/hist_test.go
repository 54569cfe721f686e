package hist_test

import (
	"math"
	"slices"
	"testing"

	"hoistway/api"
	"hoistway/hist"
)

// wrong: bins and widths that may not be.
func wrong() [][2]int {
	var l [][2]int
	for _, n := range []int{0, -1, -64, math.MinInt, math.MaxInt, 1 << 32, 1<<32 + 1} {
		l = append(l, [2]int{n, 1}, [2]int{1, n}, [2]int{64, n}, [2]int{n, 4096}, [2]int{n, n})
	}
	return append(l, [2]int{65, 1}, [2]int{65, 4096}, [2]int{1, 4097}, [2]int{64, 4097}, [2]int{65, 4097}, [2]int{4096, 64}, [2]int{1000, 10})
}

// P14.1
func TestRight(t *testing.T) {
	for _, c := range [][2]int{{1, 1}, {64, 4096}, {1, 4096}, {64, 1}, {3, 10}, {10, 60}} {
		if !hist.Right(c[0], c[1]) {
			t.Errorf("Right(%v): false", c)
		}
	}
	for _, c := range wrong() {
		if hist.Right(c[0], c[1]) {
			t.Errorf("Right(%v): true", c)
		}
	}
}

// P14.1
func TestBin(t *testing.T) {
	for _, c := range []struct{ bins, width, n, want int }{
		{3, 10, 0, 0}, {3, 10, 9, 0}, {3, 10, 10, 1}, {3, 10, 19, 1}, {3, 10, 20, 2}, {3, 10, 29, 2}, {3, 10, 30, 2}, {3, 10, 1000, 2}, {3, 10, math.MaxInt, 2},
		{1, 1, 0, 0}, {1, 1, 1, 0}, {1, 4096, math.MaxInt, 0}, {2, 1, 0, 0}, {2, 1, 1, 1}, {2, 1, 2, 1}, {64, 4096, 4095, 0}, {64, 4096, 4096, 1}, {64, 4096, 63*4096 - 1, 62}, {64, 4096, 63 * 4096, 63}, {64, 4096, 64 * 4096, 63}, {64, 4096, math.MaxInt, 63},
	} {
		if bin, e := hist.Bin(c.bins, c.width, c.n); bin != c.want || e != api.OK {
			t.Errorf("Bin(%d, %d, %d): %d, %d; want %d", c.bins, c.width, c.n, bin, int(e), c.want)
		}
	}
	for _, n := range []int{-1, -10, -4096, math.MinInt} {
		if bin, e := hist.Bin(3, 10, n); bin != 0 || e != api.ErrRange {
			t.Errorf("Bin of %d: %d, %d", n, bin, int(e))
		}
	}
	for _, c := range wrong() {
		for _, n := range []int{0, 5, math.MaxInt, -1, math.MinInt} {
			if bin, e := hist.Bin(c[0], c[1], n); bin != 0 || e != api.ErrArg {
				t.Errorf("Bin(%v, %d): %d, %d", c, n, bin, int(e))
			}
		}
	}
}

// P14.1
func TestOf(t *testing.T) {
	for _, c := range []struct {
		bins, width int
		l, want     []int
	}{
		{3, 10, []int{5, 25, 99}, []int{1, 0, 2}}, {3, 10, nil, []int{0, 0, 0}}, {1, 1, []int{0, 7, math.MaxInt}, []int{3}}, {1, 1, []int{}, []int{0}}, {2, 1, []int{1, 0, 1, 2}, []int{1, 3}},
		{4, 5, []int{0, 4, 5, 9, 10, 14, 15, 19, 20, 5}, []int{2, 3, 2, 3}}, {2, 4096, []int{4096, 4095, 0, 4096}, []int{2, 2}},
	} {
		as := slices.Clone(c.l)
		if got, e := hist.Of(c.bins, c.width, c.l...); e != api.OK || !slices.Equal(got, c.want) || !slices.Equal(c.l, as) {
			t.Errorf("Of(%d, %d, %v): %v, %d; want %v", c.bins, c.width, as, got, int(e), c.want)
		}
	}
	for _, l := range [][]int{{-1}, {1, 2, -1}, {-1, 1, 2}, {math.MinInt}, {5, math.MinInt, 5}} {
		if got, e := hist.Of(3, 10, l...); len(got) != 0 || e != api.ErrRange {
			t.Errorf("Of %v: %v, %d", l, got, int(e))
		}
	}
	for _, c := range wrong() {
		for _, l := range [][]int{nil, {}, {1, 2}, {-1}, {1, math.MinInt}} {
			if got, e := hist.Of(c[0], c[1], l...); len(got) != 0 || e != api.ErrArg {
				t.Errorf("Of(%v, %v): %v, %d", c, l, got, int(e))
			}
		}
	}
}

// P14.1: as many bins as there may be, each with what Edge says.
func TestEdgeHoldsBin(t *testing.T) {
	for _, c := range [][2]int{{1, 1}, {2, 1}, {3, 10}, {64, 1}, {64, 4096}, {5, 7}} {
		bins, width := c[0], c[1]
		l, _ := hist.Of(bins, width)
		if len(l) != bins {
			t.Errorf("Of(%v): %v", c, l)
		}
		for bin := range bins {
			least, behind, ok := hist.Edge(bins, width, bin)
			if least != bin*width || ok != (bin < bins-1) || ok && behind != least+width || !ok && behind != 0 {
				t.Errorf("Edge(%v, %d): %d, %d, %v", c, bin, least, behind, ok)
			}
			if got, _ := hist.Bin(bins, width, least); got != bin {
				t.Errorf("Bin(%v, %d): %d", c, least, got)
			}
			if got, _ := hist.Bin(bins, width, least+width-1); got != bin {
				t.Errorf("Bin(%v, %d): %d", c, least+width-1, got)
			}
		}
	}
}

// P14.1
func TestEdge(t *testing.T) {
	for _, c := range []struct {
		bins, width, bin, least, behind int
		ok                              bool
	}{
		{3, 10, 0, 0, 10, true}, {3, 10, 1, 10, 20, true}, {3, 10, 2, 20, 0, false}, {1, 5, 0, 0, 0, false}, {2, 4096, 1, 4096, 0, false}, {64, 4096, 62, 62 * 4096, 63 * 4096, true}, {64, 4096, 63, 63 * 4096, 0, false},
		{3, 10, 3, 0, 0, false}, {3, 10, 4, 0, 0, false}, {3, 10, -1, 0, 0, false}, {3, 10, math.MaxInt, 0, 0, false}, {3, 10, math.MinInt, 0, 0, false}, {1, 1, 1, 0, 0, false}, {1, 1, -1, 0, 0, false},
	} {
		if least, behind, ok := hist.Edge(c.bins, c.width, c.bin); least != c.least || behind != c.behind || ok != c.ok {
			t.Errorf("Edge(%d, %d, %d): %d, %d, %v", c.bins, c.width, c.bin, least, behind, ok)
		}
	}
	for _, c := range wrong() {
		for _, bin := range []int{0, 1, 2, 63, c[0] - 1, -1, math.MaxInt, math.MinInt} {
			if least, behind, ok := hist.Edge(c[0], c[1], bin); least != 0 || behind != 0 || ok {
				t.Errorf("Edge(%v, %d): %d, %d, %v", c, bin, least, behind, ok)
			}
		}
	}
}

// P14.2
func TestAdd(t *testing.T) {
	for _, c := range []struct{ a, b, want []int }{
		{nil, nil, nil}, {nil, []int{1, 2}, []int{1, 2}}, {[]int{1, 2}, nil, []int{1, 2}}, {[]int{1, 2, 3}, []int{10, 20, 30}, []int{11, 22, 33}}, {[]int{1}, []int{10, 20, 30}, []int{11, 20, 30}}, {[]int{1, 2, 3}, []int{10}, []int{11, 2, 3}},
		{[]int{-1, 5}, []int{1, -9}, []int{0, -4}}, {[]int{math.MaxInt}, []int{1}, []int{math.MinInt}}, {[]int{math.MinInt, 0}, []int{-1}, []int{math.MaxInt, 0}}, {[]int{0, 0}, []int{0, 0, 0}, []int{0, 0, 0}},
	} {
		as, bs := slices.Clone(c.a), slices.Clone(c.b)
		if got := hist.Add(c.a, c.b); !slices.Equal(got, c.want) || !slices.Equal(c.a, as) || !slices.Equal(c.b, bs) {
			t.Errorf("Add(%v, %v): %v; want %v", as, bs, got, c.want)
		}
	}
}

// P14.2
func TestTotal(t *testing.T) {
	for _, c := range []struct {
		l    []int
		want int
	}{{nil, 0}, {[]int{}, 0}, {[]int{7}, 7}, {[]int{1, 2, 3}, 6}, {[]int{5, -7}, -2}, {[]int{math.MaxInt, 1}, math.MinInt}, {[]int{math.MaxInt, math.MaxInt, 2}, 0}, {[]int{math.MinInt, -1}, math.MaxInt}} {
		if got := hist.Total(c.l); got != c.want {
			t.Errorf("Total(%v): %d; want %d", c.l, got, c.want)
		}
	}
}

// P14.2
func TestWider(t *testing.T) {
	l := []int{1, 2, 3, 4, 5, 6, 7}
	for _, c := range []struct {
		l    []int
		k    int
		want []int
	}{
		{l, 1, l}, {l, 2, []int{3, 7, 11, 7}}, {l, 3, []int{6, 15, 7}}, {l, 4, []int{10, 18}}, {l, 6, []int{21, 7}}, {l, 7, []int{28}}, {l, 8, []int{28}}, {l, math.MaxInt, []int{28}}, {l, math.MaxInt - 1, []int{28}}, {l, 1 << 62, []int{28}},
		{l[:6], 2, []int{3, 7, 11}}, {l[:6], 3, []int{6, 15}}, {nil, 1, nil}, {[]int{}, 5, nil}, {nil, math.MaxInt, nil}, {[]int{0}, 3, []int{0}}, {[]int{math.MaxInt, 1, -5}, 2, []int{math.MinInt, -5}}, {[]int{-1, 1}, 2, []int{0}},
	} {
		as := slices.Clone(c.l)
		if got, e := hist.Wider(c.l, c.k); e != api.OK || !slices.Equal(got, c.want) || !slices.Equal(c.l, as) {
			t.Errorf("Wider(%v, %d): %v, %d; want %v", as, c.k, got, int(e), c.want)
		}
	}
	for _, k := range []int{0, -1, -2, math.MinInt} {
		for _, l := range [][]int{nil, l} {
			if got, e := hist.Wider(l, k); len(got) != 0 || e != api.ErrArg {
				t.Errorf("Wider(%v, %d): %v, %d", l, k, got, int(e))
			}
		}
	}
}

// Rule 5: what is answered is new.
func TestNew(t *testing.T) {
	a, b := []int{1, 2, 3}, []int{4, 5}
	wider, _ := hist.Wider(a, 1)
	for _, l := range [][]int{hist.Add(a, nil), hist.Add(nil, a), hist.Add(a, b), hist.Add(b, a), wider} {
		l[0] = 99
		_ = append(l[:1], 98)
	}
	if !slices.Equal(a, []int{1, 2, 3}) || !slices.Equal(b, []int{4, 5}) {
		t.Error(a, b)
	}
}
