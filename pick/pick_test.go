package pick_test

import (
	"math"
	"slices"
	"testing"

	"hoistway/api"
	"hoistway/pick"
	"hoistway/words"
)

func stream(at int, l ...uint32) api.Stream { return api.Stream{Words: l, At: at} }

// same: are these the same words, of which as many were drawn?
func same(a, b api.Stream) bool { return a.At == b.At && slices.Equal(a.Words, b.Words) }

// weights: a row, and what Total answers of it.
type weights struct {
	l     []int
	total int
	e     api.Errno
}

func rows() []weights {
	const most = 1 << 31
	return []weights{
		{[]int{1}, 1, api.OK}, {[]int{1, 0, 1}, 2, api.OK}, {[]int{0, 0, 3, 0}, 3, api.OK}, {[]int{5, 1, 2}, 8, api.OK}, {[]int{10, 5, 5, 1, 1, 0, 7}, 29, api.OK}, {[]int{1, 1, 1}, 3, api.OK},
		{[]int{most}, most, api.OK}, {[]int{0, most, 0}, most, api.OK}, {[]int{most - 1, 1}, most, api.OK}, {[]int{most - 1}, most - 1, api.OK}, {[]int{1 << 30, 1 << 30}, most, api.OK}, {[]int{1, most - 1, 0}, most, api.OK},
		{nil, 0, api.ErrArg}, {[]int{}, 0, api.ErrArg}, {[]int{0}, 0, api.ErrArg}, {[]int{0, 0, 0}, 0, api.ErrArg},
		{[]int{-1}, 0, api.ErrArg}, {[]int{1, -1}, 0, api.ErrArg}, {[]int{5, -1, 5}, 0, api.ErrArg}, {[]int{math.MinInt}, 0, api.ErrArg}, {[]int{math.MaxInt, math.MinInt}, 0, api.ErrArg},
		// A weight below 0 comes ahead of all weighing too much, wherever it is.
		{[]int{most, 1, -1}, 0, api.ErrArg}, {[]int{math.MaxInt, -1}, 0, api.ErrArg}, {[]int{-1, math.MaxInt}, 0, api.ErrArg}, {[]int{math.MaxInt, math.MaxInt, 2, -1}, 0, api.ErrArg},
		{[]int{most + 1}, 0, api.ErrSize}, {[]int{most, 1}, 0, api.ErrSize}, {[]int{1, most}, 0, api.ErrSize}, {[]int{1 << 30, 1 << 30, 1}, 0, api.ErrSize}, {[]int{most, most}, 0, api.ErrSize}, {[]int{1 << 32}, 0, api.ErrSize},
		// The sums of these go round: to 0, to 1, below 0.
		{[]int{math.MaxInt, math.MaxInt, 2}, 0, api.ErrSize}, {[]int{math.MaxInt, math.MaxInt, 3}, 0, api.ErrSize}, {[]int{math.MaxInt, 1}, 0, api.ErrSize}, {[]int{1, math.MaxInt}, 0, api.ErrSize}, {[]int{math.MaxInt}, 0, api.ErrSize},
		{[]int{1 << 62, 1 << 62, 1 << 62, 1 << 62}, 0, api.ErrSize}, {[]int{1 << 62, 1 << 62, 1 << 62, 1 << 62, 1}, 0, api.ErrSize},
	}
}

// P13.1
func TestTotal(t *testing.T) {
	if pick.Most != 2147483648 {
		t.Error(pick.Most)
	}
	for _, r := range rows() {
		if total, e := pick.Total(r.l...); total != r.total || e != r.e {
			t.Errorf("Total(%v): %d, %d; want %d, %d", r.l, total, int(e), r.total, int(r.e))
		}
	}
}

// someWords: words at the ends, and at the least ones of each number below a total.
func someWords(total int) []uint32 {
	l := []uint32{0, 1, 1<<31 - 1, 1 << 31, 1<<31 + 1, 1 << 30, 3 << 30, math.MaxUint32 - 1, math.MaxUint32}
	for n := range min(total, 40) {
		for _, n := range []int{n, total - 1 - n} {
			w, _ := words.Least(uint32(n), uint32(total))
			l = append(l, w, w-1, w+1)
		}
	}
	return l
}

// place: by the document's words.
func place(w uint32, r weights) int {
	n := int(uint64(w) * uint64(r.total) >> 32)
	for i := range r.l {
		together := 0
		for _, weight := range r.l[:i+1] {
			together += weight
		}
		if together > n {
			return i
		}
	}
	return -1
}

// P13.1
func TestOf(t *testing.T) {
	for _, c := range []struct {
		w    uint32
		l    []int
		want int
	}{
		{1 << 31, []int{1, 0, 1}, 2}, {1<<31 - 1, []int{1, 0, 1}, 0}, {0, []int{0, 0, 3, 0}, 2}, {math.MaxUint32, []int{0, 0, 3, 0}, 2}, {0, []int{0, 1}, 1}, {math.MaxUint32, []int{1, 0}, 0}, {math.MaxUint32, []int{1, 1, 1, 1}, 3},
		{0, []int{1 << 31}, 0}, {math.MaxUint32, []int{1 << 31}, 0}, {math.MaxUint32, []int{1<<31 - 1, 1}, 1}, {math.MaxUint32 - 1, []int{1<<31 - 1, 1}, 1}, {math.MaxUint32 - 2, []int{1<<31 - 1, 1}, 0}, {1, []int{1, 1<<31 - 1}, 0}, {2, []int{1, 1<<31 - 1}, 1},
	} {
		if n, e := pick.Of(c.w, c.l...); n != c.want || e != api.OK {
			t.Errorf("Of(%d, %v): %d, %d; want %d", c.w, c.l, n, int(e), c.want)
		}
	}
	for _, r := range rows() {
		as := slices.Clone(r.l)
		for _, w := range someWords(r.total) {
			n, e := pick.Of(w, r.l...)
			if r.e != api.OK {
				if n != 0 || e != r.e {
					t.Errorf("Of(%d, %v): %d, %d; want the error %d", w, r.l, n, int(e), int(r.e))
				}
				continue
			}
			if e != api.OK || n != place(w, r) || !slices.Equal(r.l, as) {
				t.Errorf("Of(%d, %v): %d, %d; want %d", w, as, n, int(e), place(w, r))
			}
		}
	}
}

// P13.1: the words are shared out by weights.
func TestShares(t *testing.T) {
	l := []int{10, 0, 5, 1, 0, 16}
	counts := make([]int, len(l))
	for n := range 32 * 8 {
		i, e := pick.Of(uint32(n)<<24, l...)
		if e != api.OK {
			t.Fatal(int(e))
		}
		counts[i]++
	}
	if !slices.Equal(counts, []int{80, 0, 40, 8, 0, 128}) {
		t.Error(counts)
	}
}

// P13.2
func TestNext(t *testing.T) {
	for _, r := range rows() {
		as := slices.Clone(r.l)
		for _, w := range someWords(r.total) {
			s := stream(1, 3, w, 4)
			n, after, e := pick.Next(s, r.l...)
			if r.e != api.OK {
				if n != 0 || e != r.e || !same(after, s) {
					t.Errorf("Next(%d, %v): %d, %v, %d; want the error %d", w, r.l, n, after, int(e), int(r.e))
				}
				continue
			}
			if e != api.OK || n != place(w, r) || !same(after, stream(2, 3, w, 4)) || !same(s, stream(1, 3, w, 4)) || !slices.Equal(r.l, as) {
				t.Errorf("Next(%d, %v): %d, %v, %d; want %d", w, as, n, after, int(e), place(w, r))
			}
		}
	}
}

// P13.2: Total's error comes ahead of ErrDry; the stream stays.
func TestNextDry(t *testing.T) {
	for _, s := range []api.Stream{{}, stream(0), stream(3, 7, 8, 9), stream(4, 7, 8, 9), stream(math.MaxInt, 7), stream(-1, 7), stream(math.MinInt, 7)} {
		for _, r := range rows() {
			want := r.e
			if want == api.OK {
				want = api.ErrDry
			}
			if n, after, e := pick.Next(s, r.l...); n != 0 || e != want || !same(after, s) {
				t.Errorf("Next(%v, %v): %d, %v, %d; want %d", s, r.l, n, after, int(e), int(want))
			}
		}
	}
}
