package pareto_test

import (
	"math"
	"slices"
	"testing"

	"hoistway/pareto"
)

// P54.1
func TestBeats(t *testing.T) {
	for _, c := range []struct {
		a, b []int
		want bool
	}{
		{[]int{1, 2}, []int{2, 2}, true}, {[]int{1, 2}, []int{1, 3}, true}, {[]int{1, 2}, []int{2, 3}, true}, {[]int{1, 2}, []int{2, 1}, false}, {[]int{2, 1}, []int{1, 2}, false}, {[]int{1, 2}, []int{1, 2}, false}, {[]int{2, 2}, []int{1, 2}, false}, {[]int{1, 3}, []int{1, 2}, false},
		{nil, nil, false}, {[]int{}, nil, false}, {nil, []int{1}, false}, {[]int{1}, nil, false}, {[]int{1}, []int{1, 2}, false}, {[]int{1}, []int{2, 2}, false}, {[]int{1, 1}, []int{2}, false}, {[]int{0, 0}, []int{1, 1, 1}, false}, {[]int{0, 0, 0}, []int{1, 1}, false},
		{[]int{1}, []int{2}, true}, {[]int{2}, []int{1}, false}, {[]int{-1}, []int{0}, true}, {[]int{math.MinInt}, []int{math.MaxInt}, true}, {[]int{math.MaxInt}, []int{math.MinInt}, false}, {[]int{0, 5, math.MinInt}, []int{0, 5, math.MinInt + 1}, true}, {[]int{0, 0, 1}, []int{0, 1, 0}, false},
	} {
		if got := pareto.Beats(c.a, c.b); got != c.want {
			t.Errorf("Beats(%v, %v): %v", c.a, c.b, got)
		}
	}
}

// beats: by the document's words.
func beats(a, b []int) bool {
	if len(a) != len(b) {
		return false
	}
	greater, less := 0, 0
	for i := range a {
		if a[i] > b[i] {
			greater++
		}
		if a[i] < b[i] {
			less++
		}
	}
	return greater == 0 && less > 0
}

// left: of the rows at some places those that none of the others there beats.
func left(l [][]int, places []int) []int {
	var front []int
	for _, i := range places {
		if !slices.ContainsFunc(places, func(k int) bool { return beats(l[k], l[i]) }) {
			front = append(front, i)
		}
	}
	return front
}

// peeled: the front, and of each row which one it is in, one front taken away behind the other.
func peeled(l [][]int) ([]int, []int) {
	var places, front []int
	for i := range l {
		places = append(places, i)
	}
	layers := make([]int, len(l))
	for n := 0; len(places) > 0; n++ {
		now := left(l, places)
		if n == 0 {
			front = now
		}
		for _, i := range now {
			layers[i] = n
		}
		places = slices.DeleteFunc(places, func(i int) bool { return slices.Contains(now, i) })
	}
	return front, layers
}

// lots: many lists of rows.
func lots() [][][]int {
	l := [][][]int{
		nil, {}, {nil}, {{}}, {nil, {}, nil}, {{1}}, {{1, 2}, {2, 1}, {2, 2}}, {{3}, {1}, {2}, {1}}, {{1}, {1}, {1}}, {{2, 2}, {1, 2}, {2, 1}, {1, 1}}, {{1, 1}, {0}, {1}, {0, 0}, {}, {2, 2, 2}, {1, 1, 1}}, {{5, 5}, {4, 4}, {3, 3}, {2, 2}, {1, 1}},
		{{math.MaxInt, math.MinInt}, {math.MinInt, math.MaxInt}, {math.MinInt, math.MinInt}, {math.MaxInt, math.MaxInt}}, {{1}, {1, 0}, {0, 9}, {2}, {0, 9, 9}},
	}
	seed := uint32(12345)
	next := func(below int) int {
		seed = seed*1664525 + 1013904223
		return int(seed>>8) % below
	}
	for n := range 400 {
		var rows [][]int
		for range next(30) {
			long := 1 + n%4
			if n%5 == 0 {
				long = next(4)
			}
			var row []int
			for range long {
				row = append(row, next(3+n%9)-2)
			}
			rows = append(rows, row)
		}
		l = append(l, rows)
	}
	return l
}

// P54.1
func TestFrontLayers(t *testing.T) {
	for _, l := range lots() {
		var as [][]int
		for _, row := range l {
			as = append(as, slices.Clone(row))
		}
		front, layers := peeled(l)
		if got := pareto.Front(l); !slices.Equal(got, front) {
			t.Errorf("Front(%v): %v; want %v", l, got, front)
		}
		if got := pareto.Layers(l); !slices.Equal(got, layers) {
			t.Errorf("Layers(%v): %v; want %v", l, got, layers)
		}
		if !slices.EqualFunc(l, as, slices.Equal[[]int]) {
			t.Fatalf("the rows are others: %v", l)
		}
	}
}

// P54.1: written out.
func TestFrontOfFew(t *testing.T) {
	for _, c := range []struct {
		l             [][]int
		front, layers []int
	}{
		{nil, nil, nil}, {[][]int{{1, 2}, {2, 1}, {2, 2}}, []int{0, 1}, []int{0, 0, 1}}, {[][]int{{3}, {1}, {2}, {1}}, []int{1, 3}, []int{2, 0, 1, 0}}, {[][]int{{9, 9}, {1}, {2, 2, 2}}, []int{0, 1, 2}, []int{0, 0, 0}}, {[][]int{{}, {}}, []int{0, 1}, []int{0, 0}},
		{[][]int{{2, 2}, {1, 3}, {3, 3}, {0, 9}, {2, 2}, {4, 4}}, []int{0, 1, 3, 4}, []int{0, 0, 1, 0, 0, 2}},
	} {
		if got := pareto.Front(c.l); !slices.Equal(got, c.front) {
			t.Errorf("Front(%v): %v; want %v", c.l, got, c.front)
		}
		if got := pareto.Layers(c.l); !slices.Equal(got, c.layers) {
			t.Errorf("Layers(%v): %v; want %v", c.l, got, c.layers)
		}
	}
}

// P54.1: of many rows, each beaten by all ahead, or by none.
func TestManyRows(t *testing.T) {
	const many = 3000
	var chain, wide [][]int
	for i := range many {
		chain = append(chain, []int{many - i, many - i})
		wide = append(wide, []int{i, many - i})
	}
	for i, layer := range pareto.Layers(chain) {
		if layer != many-1-i {
			t.Fatalf("row %d of a chain: %d", i, layer)
		}
	}
	if got := pareto.Front(chain); !slices.Equal(got, []int{many - 1}) {
		t.Error(got)
	}
	if got := pareto.Front(wide); len(got) != many || !slices.IsSorted(got) {
		t.Error(len(got))
	}
}

// P54.2
func TestEachIsInOrBeaten(t *testing.T) {
	for _, l := range lots() {
		front := pareto.Front(l)
		for i := range l {
			in := slices.Contains(front, i)
			beaten := slices.ContainsFunc(front, func(k int) bool { return pareto.Beats(l[k], l[i]) })
			if in == beaten {
				t.Errorf("row %d of %v: in %v, beaten %v", i, l, in, beaten)
			}
		}
	}
}

// P54.1
func TestIdeal(t *testing.T) {
	for _, c := range []struct {
		l    [][]int
		want []int
		ok   bool
	}{
		{[][]int{{1, 2}, {2, 1}, {2, 2}}, []int{1, 1}, true}, {[][]int{{5}}, []int{5}, true}, {[][]int{{3, -1, 7}, {4, 0, 6}}, []int{3, -1, 6}, true}, {[][]int{{}}, nil, true}, {[][]int{nil, {}}, nil, true}, {[][]int{{math.MaxInt}, {math.MinInt}}, []int{math.MinInt}, true},
		{[][]int{{9, 9}, {8, 10}, {7, 11}}, []int{7, 9}, true}, {[][]int{{7, 11}, {8, 10}, {9, 9}}, []int{7, 9}, true}, {[][]int{{0}, {5}}, []int{0}, true}, {[][]int{{5}, {3}}, []int{3}, true},
		{nil, nil, false}, {[][]int{}, nil, false}, {[][]int{{1}, {1, 2}}, nil, false}, {[][]int{{1, 2}, {1}}, nil, false}, {[][]int{{}, {1}}, nil, false}, {[][]int{{1}, nil}, nil, false}, {[][]int{{1, 2}, {2, 1}, {2}}, nil, false}, {[][]int{{1}, {2}, {3, 4}}, nil, false},
	} {
		got, ok := pareto.Ideal(c.l)
		if ok != c.ok || !slices.Equal(got, c.want) {
			t.Errorf("Ideal(%v): %v, %v", c.l, got, ok)
		}
	}
}

// Rule 5: what is answered is new, what is handed in stays.
func TestNew(t *testing.T) {
	l := [][]int{{3, 1}, {1, 3}}
	got, _ := pareto.Ideal(l)
	got[0], got[1] = 99, 98
	one, _ := pareto.Ideal(l[:1])
	one[0] = 97
	if !slices.Equal(l[0], []int{3, 1}) || !slices.Equal(l[1], []int{1, 3}) {
		t.Error(l)
	}
}
