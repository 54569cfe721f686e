package words_test

import (
	"math"
	"slices"
	"testing"

	"hoistway/api"
	"hoistway/words"
)

func stream(at int, l ...uint32) api.Stream { return api.Stream{Words: l, At: at} }

// same: are these the same words, of which as many were drawn?
func same(a, b api.Stream) bool { return a.At == b.At && slices.Equal(a.Words, b.Words) }

// dry: streams that have no word any more.
func dry() []api.Stream {
	l := []api.Stream{{}, stream(0)}
	for _, at := range []int{3, 4, 100, math.MaxInt, -1, -3, math.MinInt} {
		l = append(l, stream(at, 7, 8, 9))
	}
	return append(l, stream(1), stream(-1), stream(math.MinInt), stream(math.MaxInt))
}

// P5.1
func TestLeft(t *testing.T) {
	for at, want := range []int{3, 2, 1, 0} {
		if n := words.Left(stream(at, 7, 8, 9)); n != want {
			t.Errorf("Left at %d: %d", at, n)
		}
	}
	for _, s := range dry() {
		if n := words.Left(s); n != 0 {
			t.Errorf("Left(%v): %d", s, n)
		}
	}
}

// P5.1
func TestNext(t *testing.T) {
	l := []uint32{7, 0, math.MaxUint32}
	first := stream(0, l...)
	s := first
	for i, want := range []uint32{7, 0, math.MaxUint32} {
		w, after, e := words.Next(s)
		if w != want || e != api.OK || !same(after, stream(i+1, 7, 0, math.MaxUint32)) || s.At != i {
			t.Errorf("Next at %d: %d, %v, %d", i, w, after, int(e))
		}
		s = after
	}
	if !slices.Equal(l, []uint32{7, 0, math.MaxUint32}) {
		t.Error("the words are others")
	}
	if w, after, e := words.Next(s); w != 0 || e != api.ErrDry || !same(after, s) {
		t.Errorf("Next behind the last one: %d, %v, %d", w, after, int(e))
	}
	// P2: a stream is a value; the same is drawn of it again.
	if w, after, e := words.Next(first); w != 7 || e != api.OK || after.At != 1 {
		t.Errorf("Next again: %d, %v, %d", w, after, int(e))
	}
}

// P5.1, P5.2: nothing comes of a dry stream, and it stays as it is.
func TestDry(t *testing.T) {
	for _, s := range dry() {
		if w, after, e := words.Next(s); w != 0 || e != api.ErrDry || !same(after, s) {
			t.Errorf("Next(%v): %d, %v, %d", s, w, after, int(e))
		}
		for _, n := range []int{1, 2, math.MaxInt} {
			if l, after, e := words.Many(s, n); len(l) != 0 || e != api.ErrDry || !same(after, s) {
				t.Errorf("Many(%v, %d): %v, %v, %d", s, n, l, after, int(e))
			}
		}
		for _, n := range []int{-1, math.MinInt} {
			if l, after, e := words.Many(s, n); len(l) != 0 || e != api.ErrArg || !same(after, s) {
				t.Errorf("Many(%v, %d): %v, %v, %d", s, n, l, after, int(e))
			}
		}
		if l, after, e := words.Many(s, 0); len(l) != 0 || e != api.OK || !same(after, s) {
			t.Errorf("Many(%v, 0): %v, %v, %d", s, l, after, int(e))
		}
		if w, after, e := words.Below(s, 10); w != 0 || e != api.ErrDry || !same(after, s) {
			t.Errorf("Below(%v, 10): %d, %v, %d", s, w, after, int(e))
		}
		if w, after, e := words.Below(s, 0); w != 0 || e != api.ErrArg || !same(after, s) {
			t.Errorf("Below(%v, 0): %d, %v, %d", s, w, after, int(e))
		}
	}
}

// P5.1
func TestMany(t *testing.T) {
	all := []uint32{5, 6, 7, 8}
	for at := range 5 {
		for n := -2; n <= 6; n++ {
			s := stream(at, all...)
			l, after, e := words.Many(s, n)
			switch {
			case n < 0:
				if len(l) != 0 || e != api.ErrArg || !same(after, s) {
					t.Errorf("Many at %d of %d: %v, %v, %d", at, n, l, after, int(e))
				}
			case n > 4-at:
				if len(l) != 0 || e != api.ErrDry || !same(after, s) {
					t.Errorf("Many at %d of %d: %v, %v, %d", at, n, l, after, int(e))
				}
			default:
				if !slices.Equal(l, all[at:at+n]) || e != api.OK || !same(after, stream(at+n, all...)) || s.At != at {
					t.Errorf("Many at %d of %d: %v, %v, %d", at, n, l, after, int(e))
				}
			}
		}
	}
}

// Rule 5: the list that is answered is new memory.
func TestManyIsNew(t *testing.T) {
	s := stream(1, 5, 6, 7, 8)
	l, _, _ := words.Many(s, 2)
	l[0] = 99
	l = append(l, 98)
	if !slices.Equal(s.Words, []uint32{5, 6, 7, 8}) || !slices.Equal(l, []uint32{99, 7, 98}) {
		t.Error(s, l)
	}
}

// bounds: numbers to scale to, and words.
func bounds() []uint32 {
	l := []uint32{0, 1, 2, 3, 5, 7, 10, 16, 100, 1000, 4000, 1<<31 - 1, 1 << 31, 1<<31 + 1, math.MaxUint32 - 1, math.MaxUint32}
	for p := uint32(1); p != 0; p <<= 1 {
		l = append(l, p, p-1)
	}
	return l
}

// P5.2: of w times below over 2^32 it is what is left, rounded down.
func TestScale(t *testing.T) {
	for _, c := range []struct{ w, below, want uint32 }{
		{1 << 31, 10, 5}, {1<<31 - 1, 10, 4}, {0, 10, 0}, {math.MaxUint32, 10, 9}, {math.MaxUint32, 1, 0}, {math.MaxUint32, math.MaxUint32, math.MaxUint32 - 1},
		{math.MaxUint32, 0, 0}, {1 << 16, 1 << 16, 1}, {1<<16 - 1, 1 << 16, 0}, {1 << 31, 3, 1}, {3 << 30, 2, 1},
	} {
		if n := words.Scale(c.w, c.below); n != c.want {
			t.Errorf("Scale(%d, %d): %d; want %d", c.w, c.below, n, c.want)
		}
	}
	for _, w := range bounds() {
		for _, below := range bounds() {
			n, product := uint64(words.Scale(w, below)), uint64(w)*uint64(below)
			if n<<32 > product || product-n<<32 >= 1<<32 {
				t.Errorf("Scale(%d, %d): %d", w, below, n)
			}
		}
	}
}

// P5.2
func TestBelow(t *testing.T) {
	for _, w := range bounds() {
		for _, below := range bounds() {
			s := stream(1, 3, w, 4)
			n, after, e := words.Below(s, below)
			if below == 0 {
				if n != 0 || e != api.ErrArg || !same(after, s) {
					t.Errorf("Below(%d, 0): %d, %v, %d", w, n, after, int(e))
				}
				continue
			}
			if n != words.Scale(w, below) || e != api.OK || !same(after, stream(2, 3, w, 4)) {
				t.Errorf("Below(%d, %d): %d, %v, %d", w, below, n, after, int(e))
			}
		}
	}
}

// P5.2
func TestLeast(t *testing.T) {
	for _, below := range bounds() {
		for _, n := range append(bounds(), below-1, below, below/2, below/3) {
			w, e := words.Least(n, below)
			if n >= below {
				if w != 0 || e != api.ErrArg {
					t.Errorf("Least(%d, %d): %d, %d", n, below, w, int(e))
				}
				continue
			}
			if e != api.OK || words.Scale(w, below) != n || w > 0 && words.Scale(w-1, below) >= n {
				t.Errorf("Least(%d, %d): %d, %d", n, below, w, int(e))
			}
		}
	}
	for _, c := range []struct{ n, below, want uint32 }{{5, 10, 1 << 31}, {0, 10, 0}, {0, 1, 0}, {1, 3, 1431655766}, {9, 10, 3865470567}, {math.MaxUint32 - 1, math.MaxUint32, math.MaxUint32}} {
		if w, e := words.Least(c.n, c.below); w != c.want || e != api.OK {
			t.Errorf("Least(%d, %d): %d, %d; want %d", c.n, c.below, w, int(e), c.want)
		}
	}
}
