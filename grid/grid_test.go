package grid_test

import (
	"math"
	"slices"
	"testing"

	"hoistway/api"
	"hoistway/grid"
)

func cell(from, to int) api.Cell { return api.Cell{From: from, To: to} }

// cells: all pairs of a few numbers, by Compare.
func cells() []api.Cell {
	var l []api.Cell
	edges := []int{math.MinInt, -1, 0, 1, 127, math.MaxInt}
	for _, from := range edges {
		for _, to := range edges {
			l = append(l, cell(from, to))
		}
	}
	return l
}

// holds: has a grid just these numbers (of pairs by Compare), whatever is asked?
func holds(t *testing.T, what string, g *grid.Grid, want []api.Weight) {
	t.Helper()
	if l := g.All(); !slices.Equal(l, want) || g.Len() != len(want) {
		t.Errorf("%s: All: %v; want %v; Len: %d", what, l, want, g.Len())
	}
	of := map[api.Cell]int{}
	sum := 0
	rows, cols := map[int]int{}, map[int]int{}
	for _, w := range want {
		of[w.Cell] = w.N
		sum += w.N
		rows[w.Cell.From] += w.N
		cols[w.Cell.To] += w.N
	}
	if n := g.Sum(); n != sum {
		t.Errorf("%s: Sum: %d; want %d", what, n, sum)
	}
	for _, c := range append(cells(), cell(77, 78)) {
		if n := g.Get(c); n != of[c] {
			t.Errorf("%s: Get(%v): %d; want %d", what, c, n, of[c])
		}
		if n := g.Row(c.From); n != rows[c.From] {
			t.Errorf("%s: Row(%d): %d; want %d", what, c.From, n, rows[c.From])
		}
		if n := g.Col(c.To); n != cols[c.To] {
			t.Errorf("%s: Col(%d): %d; want %d", what, c.To, n, cols[c.To])
		}
	}
}

// P7.1
func TestZero(t *testing.T) {
	g := &grid.Grid{}
	holds(t, "zero", g, nil)
	holds(t, "zero, turned", g.Turned(), nil)
	g.Set(cell(1, 2), 0)
	g.Add(cell(1, 2), 0)
	holds(t, "zero, set to 0", g, nil)
}

// P7.1
func TestCompare(t *testing.T) {
	l := cells()
	for i, a := range l {
		for j, b := range l {
			want := 0
			if i < j {
				want = -1
			} else if i > j {
				want = 1
			}
			if n := grid.Compare(a, b); n != want {
				t.Errorf("Compare(%v, %v): %d", a, b, n)
			}
		}
	}
}

// P7.1: the document's example, and what becomes 0 in other ways.
func TestNoughts(t *testing.T) {
	var g grid.Grid
	g.Add(cell(1, 2), 5)
	if g.Len() != 1 || g.Get(cell(1, 2)) != 5 {
		t.Error("Add")
	}
	g.Set(cell(1, 2), 0)
	holds(t, "Set to 0", &g, nil)
	g.Add(cell(1, 2), 5)
	g.Add(cell(1, 2), -5)
	holds(t, "Add to 0", &g, nil)
	g.Set(cell(1, 2), math.MinInt)
	g.Add(cell(1, 2), math.MinInt)
	holds(t, "Add round to 0", &g, nil)
}

// P7.1
func TestSetAdd(t *testing.T) {
	g := &grid.Grid{}
	g.Set(cell(1, 0), 7)
	g.Set(cell(0, 1), -3)
	g.Set(cell(1, 0), 8)
	g.Add(cell(0, 1), 1)
	g.Add(cell(0, 0), 4)
	g.Add(cell(-1, 127), 2)
	want := []api.Weight{{Cell: cell(-1, 127), N: 2}, {Cell: cell(0, 0), N: 4}, {Cell: cell(0, 1), N: -2}, {Cell: cell(1, 0), N: 8}}
	holds(t, "some", g, want)
	turned := g.Turned()
	holds(t, "turned", turned, []api.Weight{{Cell: cell(0, 0), N: 4}, {Cell: cell(0, 1), N: 8}, {Cell: cell(1, 0), N: -2}, {Cell: cell(127, -1), N: 2}})
	holds(t, "turned twice", turned.Turned(), want)
	// What is turned is another grid.
	turned.Set(cell(0, 0), 9)
	turned.Add(cell(1, 127), 1)
	holds(t, "what was turned", g, want)
	g.Set(cell(0, 1), 0)
	if turned.Get(cell(1, 0)) != -2 {
		t.Error("what is turned hangs on what was")
	}
}

// P7.1: sums go round.
func TestRound(t *testing.T) {
	g := &grid.Grid{}
	g.Set(cell(0, 0), math.MaxInt)
	g.Set(cell(0, 1), 1)
	g.Set(cell(1, 0), 2)
	if g.Row(0) != math.MinInt || g.Col(0) != math.MinInt+1 || g.Sum() != math.MinInt+2 {
		t.Error(g.Row(0), g.Col(0), g.Sum())
	}
	g.Add(cell(0, 0), 1)
	if n := g.Get(cell(0, 0)); n != math.MinInt {
		t.Error(n)
	}
}

// P7.1: any pair has a number of its own, and lists are in order, whatever order they came in.
func TestAll(t *testing.T) {
	l := cells()
	slices.Reverse(l)
	g := &grid.Grid{}
	var want, turned []api.Weight
	for i, c := range l {
		g.Set(c, i+1)
		want = append(want, api.Weight{Cell: c, N: i + 1})
	}
	slices.Reverse(want)
	holds(t, "all", g, want)
	for _, c := range cells() {
		turned = append(turned, api.Weight{Cell: c, N: g.Get(cell(c.To, c.From))})
	}
	holds(t, "all turned", g.Turned(), turned)
	for i, c := range l {
		if i%2 == 0 {
			g.Set(c, 0)
		}
	}
	holds(t, "half of them", g, slices.DeleteFunc(slices.Clone(want), func(w api.Weight) bool { return w.N%2 == 1 }))
}

// Rule 5: the list that is answered is new.
func TestAllIsNew(t *testing.T) {
	g := &grid.Grid{}
	g.Set(cell(0, 1), 3)
	g.All()[0].N = 9
	if g.Get(cell(0, 1)) != 3 || g.All()[0].N != 3 {
		t.Error(g.All())
	}
}
