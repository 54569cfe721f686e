package shuffle_test

import (
	"math"
	"math/rand/v2"
	"slices"
	"testing"

	"hoistway/api"
	"hoistway/shuffle"
)

const most = 1 << 16

func stream(at int, l ...uint32) api.Stream { return api.Stream{Words: l, At: at} }

// same: are these the same words, of which as many were drawn?
func same(a, b api.Stream) bool { return a.At == b.At && slices.Equal(a.Words, b.Words) }

// drawn: a stream of words without order, the last of which are as great as can be.
func drawn(seed uint64, at, n int) api.Stream {
	r := rand.New(rand.NewPCG(seed, 69))
	s := stream(at)
	for range n {
		s.Words = append(s.Words, r.Uint32())
	}
	for i := range min(3, n) {
		s.Words[n-1-i] = math.MaxUint32
	}
	return s
}

func upTo(n int) []int {
	var l []int
	for i := range n {
		l = append(l, i)
	}
	return l
}

// order: by the document's words.
func order(n int, s api.Stream) ([]int, api.Stream, api.Errno) {
	if n < 0 || n > most {
		return nil, s, api.ErrArg
	}
	l, at := upTo(n), s.At
	for i := n - 1; i >= 1; i-- {
		if at < 0 || at >= len(s.Words) {
			return nil, s, api.ErrDry
		}
		k := int(uint64(s.Words[at]) * uint64(i+1) >> 32)
		l[i], l[k] = l[k], l[i]
		at++
	}
	return l, stream(at, s.Words...), api.OK
}

func some(k, n int, s api.Stream) ([]int, api.Stream, api.Errno) {
	if k < 0 || k > n || n > most {
		return nil, s, api.ErrArg
	}
	l, at := upTo(n), s.At
	var told []int
	for i := 0; i < k; i++ {
		if at < 0 || at >= len(s.Words) {
			return nil, s, api.ErrDry
		}
		far := int(uint64(s.Words[at]) * uint64(n-i) >> 32)
		l[i], l[i+far] = l[i+far], l[i]
		told = append(told, l[i])
		at++
	}
	return told, stream(at, s.Words...), api.OK
}

// permuted: has it each number up to how many it has, once?
func permuted(l []int) bool {
	sorted := slices.Clone(l)
	slices.Sort(sorted)
	return slices.Equal(sorted, upTo(len(l)))
}

// P69.1
func TestOrder(t *testing.T) {
	for _, c := range []struct {
		n    int
		s    api.Stream
		want []int
		at   int
	}{
		{2, stream(0, 7), []int{1, 0}, 1}, {2, stream(0, 1<<31-1), []int{1, 0}, 1}, {2, stream(0, 1<<31), []int{0, 1}, 1}, {2, stream(0, math.MaxUint32), []int{0, 1}, 1}, {0, stream(0, 7), nil, 0}, {1, stream(0, 7), []int{0}, 0}, {0, stream(1, 7), nil, 1}, {1, stream(1, 7), []int{0}, 1}, {1, stream(-5), []int{0}, -5},
		{3, stream(0, 0, 0, 9), []int{1, 2, 0}, 2}, {3, stream(1, 9, 1<<31, 0), []int{2, 0, 1}, 3}, {4, stream(0, math.MaxUint32, math.MaxUint32, math.MaxUint32), []int{0, 1, 2, 3}, 3},
	} {
		got, left, e := shuffle.Order(c.n, c.s)
		if e != api.OK || !slices.Equal(got, c.want) || !same(left, stream(c.at, c.s.Words...)) {
			t.Errorf("Order(%d, %v): %v, %v, %d; want %v, %d", c.n, c.s, got, left, int(e), c.want, c.at)
		}
	}
	for seed := range uint64(400) {
		n := int(seed) / 4
		s := drawn(seed, int(seed%5)-1, n+int(seed%7))
		as := slices.Clone(s.Words)
		got, left, e := shuffle.Order(n, s)
		want, behind, wrong := order(n, s)
		if e != wrong || !slices.Equal(got, want) || !same(left, behind) || !slices.Equal(as, s.Words) {
			t.Fatalf("Order(%d, %v): %v, %v, %d; want %v, %v, %d", n, s, got, left, int(e), want, behind, int(wrong))
		}
		if e == api.OK && !permuted(got) {
			t.Fatalf("Order(%d, %v): %v", n, s, got)
		}
	}
}

// P69.1: as many as there may be, and one more; ErrArg comes ahead of ErrDry.
func TestOrderEdges(t *testing.T) {
	s := drawn(1, 2, most+1)
	got, left, e := shuffle.Order(most, s)
	want, behind, _ := order(most, s)
	if e != api.OK || !slices.Equal(got, want) || !same(left, behind) || !permuted(got) || left.At != most+1 {
		t.Errorf("Order(%d): %d, %d, %d", most, len(got), left.At, int(e))
	}
	for _, s := range []api.Stream{s, {}, stream(7), stream(-1, 5, 6), stream(math.MaxInt, 5), stream(math.MinInt)} {
		for _, n := range []int{-1, math.MinInt, most + 1, math.MaxInt, 1<<32 + 2} {
			if got, left, e := shuffle.Order(n, s); len(got) != 0 || e != api.ErrArg || !same(left, s) {
				t.Errorf("Order(%d): %d, %d, %d", n, len(got), left.At, int(e))
			}
		}
	}
	for _, s := range []api.Stream{{}, stream(0, 1, 2), stream(1, 1, 2, 3), stream(3, 1, 2, 3), stream(-1, 1, 2, 3, 4), stream(math.MaxInt, 1, 2, 3), stream(math.MinInt, 1, 2, 3)} {
		for _, n := range []int{4, 5, most} {
			if got, left, e := shuffle.Order(n, s); len(got) != 0 || e != api.ErrDry || !same(left, s) {
				t.Errorf("Order(%d, %v): %v, %v, %d", n, s, got, left, int(e))
			}
		}
	}
}

// P69.1
func TestOf(t *testing.T) {
	texts := []string{"a", "b", "c", "b", "e"}
	for seed := range uint64(200) {
		s := drawn(seed, int(seed%3), 7)
		l := texts[:seed%6]
		as := slices.Clone(l)
		got, left, e := shuffle.Of(l, s)
		places, behind, wrong := order(len(l), s)
		var want []string
		for _, at := range places {
			want = append(want, texts[at])
		}
		if e != wrong || !slices.Equal(got, want) || !same(left, behind) || !slices.Equal(l, as) {
			t.Fatalf("Of(%v, %v): %v, %v, %d; want %v", l, s, got, left, int(e), want)
		}
	}
	if got, left, e := shuffle.Of([]api.Cell{{From: 1}, {From: 2}}, stream(0, 0)); e != api.OK || !slices.Equal(got, []api.Cell{{From: 2}, {From: 1}}) || left.At != 1 {
		t.Error(got, left, int(e))
	}
	if got, left, e := shuffle.Of([]func(){nil}, stream(3)); e != api.OK || len(got) != 1 || left.At != 3 {
		t.Error(len(got), left, int(e))
	}
	if got, left, e := shuffle.Of[int](nil, stream(3)); e != api.OK || len(got) != 0 || left.At != 3 {
		t.Error(got, left, int(e))
	}
}

// P69.1: as many as there may be, and one more; ErrSize comes ahead of ErrDry.
func TestOfEdges(t *testing.T) {
	s := drawn(2, 0, most)
	if got, left, e := shuffle.Of(upTo(most), s); e != api.OK || !permuted(got) || left.At != most-1 {
		t.Errorf("Of %d: %d, %d, %d", most, len(got), left.At, int(e))
	}
	for _, s := range []api.Stream{s, {}, stream(-1, 5)} {
		for _, n := range []int{most + 1, 2 * most} {
			if got, left, e := shuffle.Of(make([]struct{}, n), s); len(got) != 0 || e != api.ErrSize || !same(left, s) {
				t.Errorf("Of %d: %d, %d, %d", n, len(got), left.At, int(e))
			}
		}
	}
	if got, left, e := shuffle.Of(make([]byte, most), stream(1, 5, 6)); len(got) != 0 || e != api.ErrDry || !same(left, stream(1, 5, 6)) {
		t.Errorf("Of: %d, %v, %d", len(got), left, int(e))
	}
}

// P69.2
func TestBack(t *testing.T) {
	for _, c := range []struct{ order, want []int }{
		{nil, nil}, {[]int{}, nil}, {[]int{0}, []int{0}}, {[]int{1, 0}, []int{1, 0}}, {[]int{1, 2, 0}, []int{2, 0, 1}}, {[]int{2, 0, 1, 3}, []int{1, 2, 0, 3}},
	} {
		as := slices.Clone(c.order)
		if got, ok := shuffle.Back(c.order); !ok || !slices.Equal(got, c.want) || !slices.Equal(c.order, as) {
			t.Errorf("Back(%v): %v, %v; want %v", as, got, ok, c.want)
		}
	}
	for _, l := range [][]int{{1}, {-1}, {0, 0}, {1, 1}, {0, 2}, {2, 0}, {0, 1, 1}, {0, 1, 3}, {-1, 0, 1}, {0, math.MaxInt}, {math.MinInt, 0}, {0, 1, 1 << 32}, {1, 2, 0, 0}} {
		if got, ok := shuffle.Back(l); ok || len(got) != 0 {
			t.Errorf("Back(%v): %v, %v", l, got, ok)
		}
	}
	// Back puts back: of more than Order makes, too.
	l, _, _ := shuffle.Order(most, drawn(3, 0, most))
	long := upTo(3 * most)
	slices.Reverse(long)
	for _, l := range [][]int{l, long} {
		back, ok := shuffle.Back(l)
		if !ok || len(back) != len(l) {
			t.Fatalf("Back of %d: %d, %v", len(l), len(back), ok)
		}
		for place, n := range l {
			if back[n] != place {
				t.Fatalf("Back of %d: %d at %d, not %d", len(l), back[n], n, place)
			}
		}
	}
	if _, ok := shuffle.Back(append(long, 0)); ok {
		t.Error("Back of what has 0 twice: true")
	}
}

// P69.2
func TestSome(t *testing.T) {
	for _, c := range []struct {
		k, n int
		s    api.Stream
		want []int
		at   int
	}{
		{0, 0, stream(0, 7), nil, 0}, {0, 5, stream(1, 7), nil, 1}, {0, most, stream(-3), nil, -3}, {1, 1, stream(0, 7), []int{0}, 1}, {1, 1, stream(0, math.MaxUint32), []int{0}, 1}, {1, 4, stream(0, 1<<31), []int{2}, 1}, {2, 4, stream(0, 1<<31, 1<<31), []int{2, 0}, 2}, {3, 3, stream(0, 0, 0, 0), []int{0, 1, 2}, 3}, {3, 3, stream(1, 9, math.MaxUint32, math.MaxUint32, math.MaxUint32), []int{2, 0, 1}, 4}, {1, most, stream(0, math.MaxUint32), []int{most - 1}, 1},
	} {
		got, left, e := shuffle.Some(c.k, c.n, c.s)
		if e != api.OK || !slices.Equal(got, c.want) || !same(left, stream(c.at, c.s.Words...)) {
			t.Errorf("Some(%d, %d, %v): %v, %v, %d; want %v, %d", c.k, c.n, c.s, got, left, int(e), c.want, c.at)
		}
	}
	for seed := range uint64(600) {
		n := int(seed % 30)
		k := int(seed*7) % (n + 1)
		s := drawn(seed, int(seed%5)-1, k+int(seed%7))
		as := slices.Clone(s.Words)
		got, left, e := shuffle.Some(k, n, s)
		want, behind, wrong := some(k, n, s)
		if e != wrong || !slices.Equal(got, want) || !same(left, behind) || !slices.Equal(as, s.Words) {
			t.Fatalf("Some(%d, %d, %v): %v, %v, %d; want %v, %v, %d", k, n, s, got, left, int(e), want, behind, int(wrong))
		}
	}
}

// P69.2, P69.3: of all each once; errors in their order.
func TestSomeEdges(t *testing.T) {
	s := drawn(4, 0, most)
	for _, k := range []int{1, 2, 1000, most - 1, most} {
		got, left, e := shuffle.Some(k, most, s)
		want, behind, _ := some(k, most, s)
		if e != api.OK || !slices.Equal(got, want) || !same(left, behind) {
			t.Fatalf("Some(%d, %d): %d, %d, %d", k, most, len(got), left.At, int(e))
		}
		sorted := slices.Clone(got)
		slices.Sort(sorted)
		if len(slices.Compact(sorted)) != k || k == most && !permuted(got) {
			t.Fatalf("Some(%d, %d): one is there twice", k, most)
		}
	}
	for _, s := range []api.Stream{s, {}, stream(-1, 5)} {
		for _, c := range [][2]int{{-1, 5}, {math.MinInt, 5}, {6, 5}, {math.MaxInt, 5}, {1, 0}, {0, -1}, {-1, -1}, {-2, -1}, {0, math.MinInt}, {0, most + 1}, {1, most + 1}, {5, math.MaxInt}, {1, 1<<32 + 1}, {math.MaxInt, math.MaxInt}} {
			if got, left, e := shuffle.Some(c[0], c[1], s); len(got) != 0 || e != api.ErrArg || !same(left, s) {
				t.Errorf("Some(%d, %d): %d, %d, %d", c[0], c[1], len(got), left.At, int(e))
			}
		}
	}
	for _, s := range []api.Stream{{}, stream(0, 1, 2), stream(1, 1, 2, 3), stream(3, 1, 2, 3), stream(-1, 1, 2, 3, 4), stream(math.MaxInt, 1, 2, 3), stream(math.MinInt, 1, 2, 3)} {
		for _, n := range []int{3, 4, most} {
			if got, left, e := shuffle.Some(3, n, s); len(got) != 0 || e != api.ErrDry || !same(left, s) {
				t.Errorf("Some(3, %d, %v): %v, %v, %d", n, s, got, left, int(e))
			}
		}
	}
}

// Rule 5: what is answered is new.
func TestNew(t *testing.T) {
	l := []int{5}
	got, _, _ := shuffle.Of(l, api.Stream{})
	got[0] = 6
	order := []int{0, 1}
	back, _ := shuffle.Back(order)
	back[0] = 7
	if l[0] != 5 || order[0] != 0 {
		t.Error(l, order)
	}
}
