package heap_test

import (
	"math"
	"slices"
	"testing"

	"hoistway/api"
	"hoistway/heap"
)

// small: all entries of a few numbers, in order, as their numbers are gone through.
func small() []api.Entry {
	var l []api.Entry
	edges := []int{math.MinInt, -1, 0, 1, math.MaxInt}
	for _, time := range edges {
		for _, kind := range edges {
			for _, id := range edges {
				l = append(l, api.Entry{Time: time, Kind: kind, Id: id})
			}
		}
	}
	return l
}

// mixed: so many entries without order, some of them more than once.
func mixed(n int, seed uint64) []api.Entry {
	var l []api.Entry
	next := func(below uint64) int {
		seed ^= seed << 13
		seed ^= seed >> 7
		seed ^= seed << 17
		return int(seed%below) - 2
	}
	for range n {
		l = append(l, api.Entry{Time: next(9), Kind: next(4), Id: next(5)})
	}
	return l
}

// inOrder: entries as they are to come, each put in behind all that come no later.
func inOrder(l []api.Entry) []api.Entry {
	var sorted []api.Entry
	for _, e := range l {
		i := 0
		for i < len(sorted) {
			o := sorted[i]
			if e.Time < o.Time || e.Time == o.Time && (e.Kind < o.Kind || e.Kind == o.Kind && e.Id < o.Id) {
				break
			}
			i++
		}
		sorted = slices.Insert(sorted, i, e)
	}
	return sorted
}

// drained: all entries, one Pop behind the other, each as Peek and Len have told it.
func drained(t *testing.T, h *heap.Heap) []api.Entry {
	t.Helper()
	var l []api.Entry
	for n := h.Len(); n > 0; n-- {
		top, ok := h.Peek()
		if !ok || h.Len() != n {
			t.Fatalf("Peek: %v, %v; Len %d, not %d", top, ok, h.Len(), n)
		}
		e, ok := h.Pop()
		if !ok || e != top {
			t.Fatalf("Pop: %v, %v; Peek: %v", e, ok, top)
		}
		l = append(l, e)
	}
	none(t, h)
	return l
}

// none: is there no entry?
func none(t *testing.T, h *heap.Heap) {
	t.Helper()
	if e, ok := h.Peek(); e != (api.Entry{}) || ok {
		t.Errorf("Peek of none: %v, %v", e, ok)
	}
	if e, ok := h.Pop(); e != (api.Entry{}) || ok {
		t.Errorf("Pop of none: %v, %v", e, ok)
	}
	if l := h.Until(math.MaxInt); len(l) != 0 || h.Len() != 0 {
		t.Errorf("Until of none: %v; Len %d", l, h.Len())
	}
}

// P6.1
func TestLess(t *testing.T) {
	l := small()
	for i, a := range l {
		for j, b := range l {
			if got := heap.Less(a, b); got != (i < j) {
				t.Fatalf("Less(%v, %v): %v", a, b, got)
			}
		}
	}
}

// P6.1
func TestNone(t *testing.T) {
	none(t, &heap.Heap{})
	none(t, heap.Make())
	var l []api.Entry
	none(t, heap.Make(l...))
}

// P6.1: the document's example, on a zero Heap.
func TestExample(t *testing.T) {
	var h heap.Heap
	h.Push(api.Entry{Time: 5, Kind: 1, Id: 0})
	h.Push(api.Entry{Time: 5, Kind: 0, Id: 9})
	if e, ok := h.Pop(); e != (api.Entry{Time: 5, Kind: 0, Id: 9}) || !ok {
		t.Error(e, ok)
	}
	if e, ok := h.Peek(); e != (api.Entry{Time: 5, Kind: 1, Id: 0}) || !ok || h.Len() != 1 {
		t.Error(e, ok, h.Len())
	}
}

// P6.1, P6.2: whatever order they come in, they go in order.
func TestOrder(t *testing.T) {
	for n := range 60 {
		l := mixed(n, uint64(n)*977+1)
		as, want := slices.Clone(l), inOrder(l)
		h := &heap.Heap{}
		for i, e := range l {
			h.Push(e)
			top, ok := h.Peek()
			if first := inOrder(l[:i+1])[0]; !ok || top != first || h.Len() != i+1 {
				t.Fatalf("Peek of %d: %v, not %v", i+1, top, first)
			}
		}
		if got := drained(t, h); !slices.Equal(got, want) {
			t.Fatalf("Pushed: %v; want %v", got, want)
		}
		if got := drained(t, heap.Make(l...)); !slices.Equal(got, want) {
			t.Fatalf("Make: %v; want %v", got, want)
		}
		if got := heap.Sorted(l...); !slices.Equal(got, want) {
			t.Fatalf("Sorted: %v; want %v", got, want)
		}
		if !slices.Equal(l, as) {
			t.Fatal("the list is another one")
		}
	}
	l := small()
	slices.Reverse(l)
	if got := heap.Sorted(l...); !slices.Equal(got, small()) {
		t.Error("Sorted of the ends")
	}
	if got := drained(t, heap.Make(l...)); !slices.Equal(got, small()) {
		t.Error("Make of the ends")
	}
}

// P6.1
func TestUntil(t *testing.T) {
	l := mixed(50, 99)
	for time := -4; time < 9; time++ {
		h := heap.Make(l...)
		var gone, stay []api.Entry
		for _, e := range inOrder(l) {
			if e.Time <= time {
				gone = append(gone, e)
			} else {
				stay = append(stay, e)
			}
		}
		if got := h.Until(time); !slices.Equal(got, gone) || h.Len() != len(stay) {
			t.Errorf("Until(%d): %v; want %v; Len %d", time, got, gone, h.Len())
		}
		if got := h.Until(time); len(got) != 0 {
			t.Errorf("Until(%d) again: %v", time, got)
		}
		if got := drained(t, h); !slices.Equal(got, stay) {
			t.Errorf("behind Until(%d): %v; want %v", time, got, stay)
		}
	}
	h := heap.Make(small()...)
	if got := h.Until(math.MinInt); !slices.Equal(got, small()[:25]) {
		t.Errorf("Until of the least: %v", got)
	}
	if got := h.Until(math.MaxInt); !slices.Equal(got, small()[25:]) {
		t.Errorf("Until of the greatest: %v", got)
	}
}

// P6.1: the same may be there more than once.
func TestSame(t *testing.T) {
	e := api.Entry{Time: 4, Kind: 2, Id: 1}
	h := heap.Make(e, e)
	h.Push(e)
	if got := drained(t, h); !slices.Equal(got, []api.Entry{e, e, e}) {
		t.Error(got)
	}
	if got := heap.Sorted(e, e); !slices.Equal(got, []api.Entry{e, e}) {
		t.Error(got)
	}
}

// P6.1: pushed and popped by turns, held against a list in order.
func TestTurns(t *testing.T) {
	var h heap.Heap
	var l []api.Entry
	for i, e := range mixed(2000, 4711) {
		if i%3 < 2 {
			h.Push(e)
			l = inOrder(append(l, e))
			continue
		}
		got, ok := h.Pop()
		if !ok || got != l[0] {
			t.Fatalf("Pop %d: %v, %v; want %v", i, got, ok, l[0])
		}
		l = l[1:]
		if i%100 == 2 {
			n := 0
			for n < len(l) && l[n].Time <= 0 {
				n++
			}
			if got := h.Until(0); !slices.Equal(got, l[:n]) {
				t.Fatalf("Until %d: %v; want %v", i, got, l[:n])
			}
			l = l[n:]
		}
	}
	if got := drained(t, &h); !slices.Equal(got, l) {
		t.Error("what stays")
	}
}

// Rule 5: lists are neither kept nor handed out.
func TestApart(t *testing.T) {
	first, last := api.Entry{Time: 1}, api.Entry{Time: 9}
	l := []api.Entry{last, first}
	h := heap.Make(l...)
	sorted := heap.Sorted(l...)
	l[0], l[1] = api.Entry{Time: -5}, api.Entry{Time: -6}
	if !slices.Equal(sorted, []api.Entry{first, last}) {
		t.Error("Sorted has kept its list", sorted)
	}
	gone := h.Until(1)
	h.Push(api.Entry{Time: 2})
	if !slices.Equal(gone, []api.Entry{first}) {
		t.Error("Until", gone)
	}
	if got := drained(t, h); !slices.Equal(got, []api.Entry{{Time: 2}, last}) {
		t.Error("Make has kept its list", got)
	}
}
