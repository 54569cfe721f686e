package draw_test

import (
	"math"
	"slices"
	"testing"

	"hoistway/api"
	"hoistway/cumul"
	"hoistway/draw"
)

const whole = 1 << 32

func stream(at int, l ...uint32) api.Stream { return api.Stream{Words: l, At: at} }

// same: are these the same words, of which as many were drawn?
func same(a, b api.Stream) bool { return a.At == b.At && slices.Equal(a.Words, b.Words) }

// rows: rising ones, whose last number is 2^32 at most.
func rows() [][]uint64 {
	l := [][]uint64{
		nil, {}, {0}, {1}, {10, 20}, {0, 0, 3}, {3, 3, 3, 9}, {5, 5}, {0, 1, 2, 3}, {whole}, {0, whole}, {whole, whole}, {whole - 1}, {whole - 1, whole}, {1 << 31, whole}, {0, 1 << 31, 1 << 31, whole, whole},
	}
	for _, rate := range []int{0, 1, 500, 1000, 4000} {
		table, _ := cumul.Table(rate)
		l = append(l, table)
	}
	return l
}

// near: words at a row's numbers and beside them, and at the ends.
func near(l []uint64) []uint32 {
	ws := []uint32{0, 1, 2, 1<<31 - 1, 1 << 31, math.MaxUint32 - 1, math.MaxUint32}
	for _, n := range l {
		for _, w := range []uint64{n - 2, n - 1, n, n + 1} {
			if w < whole {
				ws = append(ws, uint32(w))
			}
		}
	}
	return ws
}

// meant: the place that a word means, by the document's words.
func meant(l []uint64, w uint32) int {
	place := 0
	for place < len(l) && l[place] <= uint64(w) {
		place++
	}
	return place
}

// P12.1
func TestOf(t *testing.T) {
	for _, c := range []struct {
		l    []uint64
		w    uint32
		want int
	}{
		{[]uint64{10, 20}, 0, 0}, {[]uint64{10, 20}, 9, 0}, {[]uint64{10, 20}, 10, 1}, {[]uint64{10, 20}, 19, 1}, {[]uint64{10, 20}, 20, 2}, {[]uint64{10, 20}, math.MaxUint32, 2},
		{nil, 0, 0}, {[]uint64{}, 7, 0}, {[]uint64{0}, 0, 1}, {[]uint64{1}, 0, 0}, {[]uint64{5, 5, 5, 6}, 4, 0}, {[]uint64{5, 5, 5, 6}, 5, 3}, {[]uint64{0, 0, 1}, 0, 2},
		{[]uint64{whole}, math.MaxUint32, 0}, {[]uint64{math.MaxUint32}, math.MaxUint32, 1}, {[]uint64{0, whole, whole}, math.MaxUint32, 1},
	} {
		if got := draw.Of(c.l, c.w); got != c.want {
			t.Errorf("Of(%v, %d): %d; want %d", c.l, c.w, got, c.want)
		}
	}
	for _, l := range rows() {
		for _, w := range near(l) {
			if got := draw.Of(l, w); got != meant(l, w) {
				t.Errorf("Of(%v, %d): %d; want %d", l, w, got, meant(l, w))
			}
		}
	}
}

// P12.1: of a long row, too.
func TestOfLong(t *testing.T) {
	var l []uint64
	for n := range uint64(1000) {
		l = append(l, n*7)
	}
	for w := range uint32(7100) {
		if got := draw.Of(l, w); got != min(1000, int(w/7)+1) {
			t.Fatalf("Of(%d): %d", w, got)
		}
	}
}

// P12.1
func TestNext(t *testing.T) {
	for _, l := range rows() {
		if !cumul.Right(l) {
			continue
		}
		as := slices.Clone(l)
		for _, w := range near(l) {
			s := stream(1, 3, w, 4)
			n, after, e := draw.Next(l, s)
			if n != meant(l, w) || e != api.OK || !same(after, stream(2, 3, w, 4)) || !same(s, stream(1, 3, w, 4)) || !slices.Equal(l, as) {
				t.Errorf("Next(%v, %d): %d, %v, %d", l, w, n, after, int(e))
			}
		}
	}
	// One behind the other.
	s := stream(0, 0, 1<<31, math.MaxUint32, 1<<31-1)
	for i, want := range []int{0, 1, 1, 0} {
		n, after, e := draw.Next([]uint64{1 << 31, whole}, s)
		if n != want || e != api.OK || after.At != i+1 {
			t.Errorf("Next at %d: %d, %v, %d", i, n, after, int(e))
		}
		s = after
	}
	if n, after, e := draw.Next([]uint64{1 << 31, whole}, s); n != 0 || e != api.ErrDry || !same(after, s) {
		t.Errorf("Next behind the last one: %d, %v, %d", n, after, int(e))
	}
}

// P12.1
func TestNextDry(t *testing.T) {
	for _, s := range []api.Stream{{}, stream(0), stream(3, 7, 8, 9), stream(4, 7, 8, 9), stream(math.MaxInt, 7), stream(-1, 7), stream(math.MinInt, 7)} {
		for _, l := range [][]uint64{{whole}, {0, whole}, {whole, whole}} {
			if n, after, e := draw.Next(l, s); n != 0 || e != api.ErrDry || !same(after, s) {
				t.Errorf("Next(%v, %v): %d, %v, %d", l, s, n, after, int(e))
			}
		}
	}
}

// P12.1: no table: ErrForm, ahead of ErrDry.
func TestNextOfNoTable(t *testing.T) {
	for _, l := range [][]uint64{nil, {}, {0}, {10, 20}, {whole - 1}, {whole + 1}, {whole, whole + 1}, {2, 1, whole}, {whole, 0}, {math.MaxUint64}} {
		for _, s := range []api.Stream{stream(0, 5, 6), stream(1, 0, math.MaxUint32), {}, stream(2, 5, 6), stream(-1, 5)} {
			if n, after, e := draw.Next(l, s); n != 0 || e != api.ErrForm || !same(after, s) {
				t.Errorf("Next(%v, %v): %d, %v, %d", l, s, n, after, int(e))
			}
		}
	}
}

// P12.2
func TestSpan(t *testing.T) {
	for _, c := range []struct {
		l           []uint64
		n           int
		first, many uint64
	}{
		{[]uint64{10, 20}, 0, 0, 10}, {[]uint64{10, 20}, 1, 10, 10}, {[]uint64{10, 20}, -1, 0, 0}, {[]uint64{10, 20}, 3, 0, 0}, {[]uint64{10, 20}, math.MaxInt, 0, 0}, {[]uint64{10, 20}, math.MinInt, 0, 0},
		{nil, 0, 0, 0}, {nil, 1, 0, 0}, {nil, -1, 0, 0}, {[]uint64{0, 5, 5, 9}, 0, 0, 0}, {[]uint64{0, 5, 5, 9}, 1, 0, 5}, {[]uint64{0, 5, 5, 9}, 2, 0, 0}, {[]uint64{0, 5, 5, 9}, 3, 5, 4},
		{[]uint64{whole}, 0, 0, whole}, {[]uint64{0, whole}, 1, 0, whole}, {[]uint64{1, whole}, 1, 1, whole - 1}, {[]uint64{whole, whole}, 1, 0, 0}, {[]uint64{whole - 1, whole}, 1, whole - 1, 1}, {[]uint64{whole}, 1, 0, 0},
	} {
		if first, many := draw.Span(c.l, c.n); first != c.first || many != c.many {
			t.Errorf("Span(%v, %d): %d, %d; want %d, %d", c.l, c.n, first, many, c.first, c.many)
		}
	}
}

// P12.2: just the words of a place's span mean it.
func TestSpanMeans(t *testing.T) {
	for _, l := range rows() {
		for n := range l {
			first, many := draw.Span(l, n)
			if many == 0 {
				if first != 0 {
					t.Errorf("Span(%v, %d): %d, 0", l, n, first)
				}
				continue
			}
			if draw.Of(l, uint32(first)) != n || draw.Of(l, uint32(first+many-1)) != n {
				t.Errorf("Span(%v, %d): %d, %d: others in it", l, n, first, many)
			}
			if first > 0 && draw.Of(l, uint32(first-1)) >= n || first+many < whole && draw.Of(l, uint32(first+many)) <= n {
				t.Errorf("Span(%v, %d): %d, %d: more beside it", l, n, first, many)
			}
		}
	}
}

// P1: of other rows nothing is promised but that all ends.
func TestWrongRows(t *testing.T) {
	for _, l := range [][]uint64{{math.MaxUint64}, {math.MaxUint64, 0, 5}, {9, 3, 7}, {whole + 5, whole + 1}} {
		for _, w := range []uint32{0, 5, math.MaxUint32} {
			if n := draw.Of(l, w); n < 0 || n > len(l) {
				t.Errorf("Of(%v, %d): %d", l, w, n)
			}
		}
		for n := -1; n <= len(l); n++ {
			draw.Span(l, n)
		}
	}
}
