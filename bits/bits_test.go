package bits_test

import (
	"math"
	"slices"
	"testing"

	"hoistway/api"
	"hoistway/bits"
)

// outside: numbers that are in no set.
func outside() []int {
	return []int{-1, -2, -64, -127, -128, -129, 128, 129, 191, 192, 255, 256, 1 << 32, -1 << 32, math.MaxInt, math.MaxInt - 1, math.MinInt, math.MinInt + 1}
}

// places: all numbers that may be in a set, and some that may not.
func places() []int {
	l := outside()
	for n := -3; n < 131; n++ {
		l = append(l, n)
	}
	return l
}

// sets: none, all, ends of words, patterns, and some without order.
func sets() []api.Set {
	l := []api.Set{{}, {^uint64(0), ^uint64(0)}, {^uint64(0), 0}, {0, ^uint64(0)}, {1, 0}, {1 << 63, 0}, {0, 1}, {0, 1 << 63}, {1, 1 << 63}, {1 << 63, 1},
		{0xaaaaaaaaaaaaaaaa, 0x5555555555555555}, {0x00ff00ff00ff00ff, 0xf0f0f0f0f0f0f0f0}, {1 << 3, 1 << 6}}
	x := uint64(7)
	next := func() uint64 {
		x ^= x << 13
		x ^= x >> 7
		x ^= x << 17
		return x
	}
	for range 12 {
		l = append(l, api.Set{next(), next()}, api.Set{next() & next() & next(), next() & next() & next()})
	}
	return l
}

// numbers: what is in a set, by the words' own arithmetic.
func numbers(s api.Set) []int {
	var l []int
	for n := range 128 {
		w := s[n/64]
		for range n % 64 {
			w /= 2
		}
		if w%2 == 1 {
			l = append(l, n)
		}
	}
	return l
}

// kept: those of a list that something is said of.
func kept(l []int, is func(int) bool) []int {
	var k []int
	for _, n := range l {
		if is(n) {
			k = append(k, n)
		}
	}
	return k
}

// holds tells whether just these numbers are in a set.
func holds(s api.Set, l []int) bool { return slices.Equal(numbers(s), l) }

// P3.1: the layout of the words, told by numbers written out.
func TestWords(t *testing.T) {
	for _, c := range []struct {
		l    []int
		want api.Set
	}{
		{nil, api.Set{}},
		{[]int{0}, api.Set{1, 0}},
		{[]int{63}, api.Set{0x8000000000000000, 0}},
		{[]int{64}, api.Set{0, 1}},
		{[]int{127}, api.Set{0, 0x8000000000000000}},
		{[]int{3, 70}, api.Set{8, 64}},
		{[]int{70, 3, 3, 70, 3}, api.Set{8, 64}},
		{[]int{-1, 128, 5, math.MaxInt, math.MinInt, 192, -64}, api.Set{32, 0}},
		{outside(), api.Set{}},
	} {
		if s := bits.Of(c.l...); s != c.want {
			t.Errorf("Of(%v): %x; want %x", c.l, s, c.want)
		}
	}
	if bits.Of() != (api.Set{}) {
		t.Error("Of none")
	}
}

// P3.1
func TestHasWithWithout(t *testing.T) {
	for _, s := range sets() {
		in := numbers(s)
		for _, n := range places() {
			fits := 0 <= n && n <= 127
			if got := bits.Has(s, n); got != slices.Contains(in, n) {
				t.Errorf("Has(%x, %d): %v", s, n, got)
			}
			with := bits.With(s, n)
			if !holds(with, kept(numbers(api.Set{^uint64(0), ^uint64(0)}), func(m int) bool { return slices.Contains(in, m) || fits && m == n })) {
				t.Errorf("With(%x, %d): %x", s, n, with)
			}
			without := bits.Without(s, n)
			if !holds(without, kept(in, func(m int) bool { return m != n })) {
				t.Errorf("Without(%x, %d): %x", s, n, without)
			}
		}
	}
}

// P3.1
func TestOfAll(t *testing.T) {
	for _, s := range sets() {
		l := numbers(s)
		slices.Reverse(l)
		l = append(append(l, l...), outside()...)
		as := slices.Clone(l)
		if got := bits.Of(l...); got != s {
			t.Errorf("Of the numbers of %x: %x", s, got)
		}
		if !slices.Equal(l, as) {
			t.Errorf("Of changed its list")
		}
	}
}

// P3.1
func TestAndOrSubCount(t *testing.T) {
	all := numbers(api.Set{^uint64(0), ^uint64(0)})
	for _, a := range sets() {
		if n := bits.Count(a); n != len(numbers(a)) {
			t.Errorf("Count(%x): %d", a, n)
		}
		for _, b := range sets() {
			x, y := numbers(a), numbers(b)
			if !holds(bits.And(a, b), kept(all, func(n int) bool { return slices.Contains(x, n) && slices.Contains(y, n) })) {
				t.Errorf("And(%x, %x)", a, b)
			}
			if !holds(bits.Or(a, b), kept(all, func(n int) bool { return slices.Contains(x, n) || slices.Contains(y, n) })) {
				t.Errorf("Or(%x, %x)", a, b)
			}
			if !holds(bits.Sub(a, b), kept(all, func(n int) bool { return slices.Contains(x, n) && !slices.Contains(y, n) })) {
				t.Errorf("Sub(%x, %x)", a, b)
			}
		}
	}
	if bits.Count(api.Set{}) != 0 || bits.Count(api.Set{^uint64(0), ^uint64(0)}) != 128 || bits.Most != 128 {
		t.Error("Count at the ends")
	}
}

// P3.2
func TestBelowFrom(t *testing.T) {
	for _, s := range sets() {
		in := numbers(s)
		for _, n := range places() {
			if got := bits.Below(s, n); !holds(got, kept(in, func(m int) bool { return m < n })) {
				t.Errorf("Below(%x, %d): %x", s, n, got)
			}
			if got := bits.From(s, n); !holds(got, kept(in, func(m int) bool { return m >= n })) {
				t.Errorf("From(%x, %d): %x", s, n, got)
			}
		}
	}
}

// P3.2
func TestRange(t *testing.T) {
	all := numbers(api.Set{^uint64(0), ^uint64(0)})
	for _, from := range places() {
		for _, to := range places() {
			if got := bits.Range(from, to); !holds(got, kept(all, func(n int) bool { return from <= n && n < to })) {
				t.Errorf("Range(%d, %d): %x", from, to, got)
			}
		}
	}
}

// P3.2
func TestNextPrev(t *testing.T) {
	for _, s := range sets() {
		in := numbers(s)
		for _, n := range places() {
			wn, wok := 0, false
			if l := kept(in, func(m int) bool { return m >= n }); len(l) > 0 {
				wn, wok = l[0], true
			}
			if got, ok := bits.Next(s, n); got != wn || ok != wok {
				t.Errorf("Next(%x, %d): %d, %v; want %d, %v", s, n, got, ok, wn, wok)
			}
			wn, wok = 0, false
			if l := kept(in, func(m int) bool { return m <= n }); len(l) > 0 {
				wn, wok = l[len(l)-1], true
			}
			if got, ok := bits.Prev(s, n); got != wn || ok != wok {
				t.Errorf("Prev(%x, %d): %d, %v; want %d, %v", s, n, got, ok, wn, wok)
			}
		}
	}
}

// P3.2: the document's example, and 0 that is there beside 0 that tells of nothing.
func TestNextPrevExamples(t *testing.T) {
	s := bits.Of(3, 70)
	if n, ok := bits.Next(s, 4); n != 70 || !ok {
		t.Error("Next(4)", n, ok)
	}
	if n, ok := bits.Prev(s, 69); n != 3 || !ok {
		t.Error("Prev(69)", n, ok)
	}
	if n, ok := bits.Next(bits.Of(0), math.MinInt); n != 0 || !ok {
		t.Error("Next of 0", n, ok)
	}
	if n, ok := bits.Prev(bits.Of(0), 0); n != 0 || !ok {
		t.Error("Prev of 0", n, ok)
	}
	if n, ok := bits.Next(s, 71); n != 0 || ok {
		t.Error("Next(71)", n, ok)
	}
	if n, ok := bits.Prev(s, 2); n != 0 || ok {
		t.Error("Prev(2)", n, ok)
	}
	if n, ok := bits.Prev(s, math.MaxInt); n != 70 || !ok {
		t.Error("Prev of the greatest", n, ok)
	}
}

// P3.2, and rule 8: all, rising; left at any time; gone through again.
func TestAll(t *testing.T) {
	for _, s := range sets() {
		in := numbers(s)
		all := bits.All(s)
		if all == nil {
			t.Fatal("nil")
		}
		for range 2 {
			if l := slices.Collect(all); !slices.Equal(l, in) {
				t.Errorf("All(%x): %v", s, l)
			}
		}
		for stop := range in {
			var l []int
			for n := range all {
				l = append(l, n)
				if len(l) > stop {
					break
				}
			}
			if !slices.Equal(l, in[:stop+1]) {
				t.Errorf("All(%x), left behind %d: %v", s, stop+1, l)
			}
		}
		if l := slices.Collect(all); !slices.Equal(l, in) {
			t.Errorf("All(%x), left and gone through again: %v", s, l)
		}
	}
}

// P3.2: a walk within a walk doesn't hinder the outer one.
func TestAllWithin(t *testing.T) {
	all := bits.All(bits.Of(1, 64, 127))
	var l []int
	for a := range all {
		for b := range all {
			l = append(l, a*1000+b)
		}
	}
	if !slices.Equal(l, []int{1001, 1064, 1127, 64001, 64064, 64127, 127001, 127064, 127127}) {
		t.Error(l)
	}
}

// P3.3
func TestShift(t *testing.T) {
	for _, s := range sets() {
		in := numbers(s)
		for k := -200; k <= 200; k++ {
			var w []int
			for _, n := range in {
				if 0 <= n+k && n+k <= 127 {
					w = append(w, n+k)
				}
			}
			if got := bits.Shift(s, k); !holds(got, w) {
				t.Errorf("Shift(%x, %d): %x", s, k, got)
			}
		}
		for _, k := range []int{256, -256, 1 << 32, -1 << 32, 1<<32 + 1, math.MaxInt, math.MaxInt - 126, math.MinInt, math.MinInt + 127} {
			if got := bits.Shift(s, k); got != (api.Set{}) {
				t.Errorf("Shift(%x, %d): %x", s, k, got)
			}
		}
	}
}

// P3.3
func TestShiftExamples(t *testing.T) {
	for _, c := range []struct {
		l    []int
		k    int
		want []int
	}{
		{[]int{3, 70}, -5, []int{65}},
		{[]int{3, 70}, 0, []int{3, 70}},
		{[]int{0, 63, 127}, 1, []int{1, 64}},
		{[]int{0, 64, 127}, -1, []int{63, 126}},
		{[]int{0, 1}, 127, []int{127}},
		{[]int{127, 126}, -127, []int{0}},
		{[]int{0, 63}, 64, []int{64, 127}},
		{[]int{64, 127}, -64, []int{0, 63}},
		{[]int{0, 127}, 128, nil},
		{[]int{0, 127}, -128, nil},
	} {
		if got := bits.Shift(bits.Of(c.l...), c.k); !holds(got, c.want) {
			t.Errorf("Shift(%v, %d): %v", c.l, c.k, numbers(got))
		}
	}
}

// P2, and rule 5: what is handed in stays as it was, and the same comes of the same.
func TestSameAgain(t *testing.T) {
	for _, s := range sets() {
		as := s
		first := []api.Set{bits.With(s, 5), bits.Without(s, 5), bits.Below(s, 70), bits.From(s, 70), bits.Shift(s, 9), bits.Shift(s, -9)}
		again := []api.Set{bits.With(s, 5), bits.Without(s, 5), bits.Below(s, 70), bits.From(s, 70), bits.Shift(s, 9), bits.Shift(s, -9)}
		if s != as || !slices.Equal(first, again) {
			t.Errorf("of %x: %x, then %x", as, first, again)
		}
	}
}
