package span_test

import (
	"math"
	"slices"
	"testing"

	"hoistway/api"
	"hoistway/span"
)

const (
	least    = math.MinInt
	greatest = math.MaxInt
)

// spans: from and to by turns.
func spans(l ...int) []api.Span {
	var s []api.Span
	for i := 0; i < len(l); i += 2 {
		s = append(s, api.Span{From: l[i], To: l[i+1]})
	}
	return s
}

// most is how many numbers the small rows are made of.
const most = 6

// row: the right row of the numbers whose bits a number has.
func row(bits int) []api.Span {
	var l []api.Span
	for n := range most {
		if bits>>n&1 == 0 {
			continue
		}
		if n > 0 && bits>>(n-1)&1 == 1 {
			l[len(l)-1].To++
			continue
		}
		l = append(l, api.Span{From: n, To: n + 1})
	}
	return l
}

// bitsOf: which numbers some spans have, by bits.
func bitsOf(l []api.Span) int {
	bits := 0
	for _, s := range l {
		for n := s.From; n < s.To; n++ {
			bits |= 1 << n
		}
	}
	return bits
}

// rights: rows at the ends of what there is.
func rights() [][]api.Span {
	return [][]api.Span{
		nil, {}, spans(1, 2), spans(1, 2, 3, 4), spans(-5, 0, 1, 2, 10, 20), spans(least, greatest), spans(least, least+1, greatest-1, greatest),
		spans(least, -1, 0, greatest), spans(least, 0), spans(0, greatest), spans(greatest-1, greatest), spans(least, least+1, least+2, 5),
	}
}

// P9.1
func TestRight(t *testing.T) {
	for _, l := range rights() {
		if !span.Right(l...) {
			t.Errorf("Right(%v): false", l)
		}
	}
	for bits := range 1 << most {
		if !span.Right(row(bits)...) {
			t.Errorf("Right(%v): false", row(bits))
		}
	}
	for _, l := range [][]api.Span{
		spans(0, 0), spans(1, 0), spans(greatest, least), spans(least, least), spans(greatest, greatest), spans(0, greatest, greatest, greatest),
		spans(1, 2, 2, 3), spans(1, 3, 2, 4), spans(1, 5, 2, 3), spans(3, 4, 1, 2), spans(1, 2, 1, 2), spans(1, 2, 4, 4), spans(0, 0, 1, 2), spans(1, 2, 9, 5), spans(1, 2, 3, 4, 4, 5),
		spans(least, 0, 0, greatest), spans(0, greatest, least, -1), spans(1, 2, least, 0),
	} {
		if span.Right(l...) {
			t.Errorf("Right(%v): true", l)
		}
	}
}

// P9.1: any three spans of small numbers, in any order, empty ones and turned ones among them.
func TestMergeOfSmall(t *testing.T) {
	var all []api.Span
	for from := range most + 1 {
		for to := range most + 1 {
			all = append(all, api.Span{From: from, To: to})
		}
	}
	for _, a := range all {
		for _, b := range all {
			for _, c := range all {
				l := []api.Span{a, b, c}
				if got := span.Merge(l...); !slices.Equal(got, row(bitsOf(l))) {
					t.Fatalf("Merge(%v): %v", l, got)
				}
			}
		}
	}
}

// P9.1
func TestMerge(t *testing.T) {
	for _, c := range []struct{ l, want []api.Span }{
		{spans(3, 5, 1, 3, 9, 9), spans(1, 5)}, {nil, nil}, {spans(4, 4), nil}, {spans(5, 4, 9, 1), nil},
		{spans(1, 10, 2, 3, 4, 5), spans(1, 10)}, {spans(1, 2, 3, 4), spans(1, 2, 3, 4)}, {spans(3, 4, 1, 2), spans(1, 2, 3, 4)},
		{spans(1, 3, 1, 9, 1, 5), spans(1, 9)}, {spans(-5, -3, -3, 0, 1, 2), spans(-5, 0, 1, 2)},
		{spans(0, greatest, least, 0), spans(least, greatest)}, {spans(greatest, least), nil}, {spans(least, greatest, 3, 4), spans(least, greatest)},
		{spans(least, -1, 0, greatest), spans(least, -1, 0, greatest)}, {spans(greatest-1, greatest, least, least+1), spans(least, least+1, greatest-1, greatest)},
	} {
		as := slices.Clone(c.l)
		if got := span.Merge(c.l...); !slices.Equal(got, c.want) || !slices.Equal(c.l, as) {
			t.Errorf("Merge(%v): %v; want %v", as, got, c.want)
		}
	}
}

// P9.2: of all rows of small numbers.
func TestSmallRows(t *testing.T) {
	for x := range 1 << most {
		a := row(x)
		count := uint64(0)
		for n := -2; n < most+3; n++ {
			in := n >= 0 && x>>n&1 == 1
			if in {
				count++
			}
			if got := span.Has(a, n); got != in {
				t.Errorf("Has(%v, %d): %v", a, n, got)
			}
		}
		if n := span.Len(a); n != count {
			t.Errorf("Len(%v): %d", a, n)
		}
		for y := range 1 << most {
			b := row(y)
			if got := span.And(a, b); !slices.Equal(got, row(x&y)) {
				t.Fatalf("And(%v, %v): %v", a, b, got)
			}
			if got := span.Sub(a, b); !slices.Equal(got, row(x&^y)) {
				t.Fatalf("Sub(%v, %v): %v", a, b, got)
			}
			if !slices.Equal(a, row(x)) || !slices.Equal(b, row(y)) {
				t.Fatal("the rows are others")
			}
		}
	}
}

// P9.2: at the ends.
func TestHas(t *testing.T) {
	for _, c := range []struct {
		l    []api.Span
		n    int
		want bool
	}{
		{nil, 0, false}, {nil, least, false}, {nil, greatest, false}, {spans(1, 3), 1, true}, {spans(1, 3), 2, true}, {spans(1, 3), 3, false}, {spans(1, 3), 0, false},
		{spans(least, greatest), least, true}, {spans(least, greatest), greatest - 1, true}, {spans(least, greatest), greatest, false}, {spans(least, -1, 0, greatest), -1, false}, {spans(least, -1, 0, greatest), 0, true},
	} {
		if got := span.Has(c.l, c.n); got != c.want {
			t.Errorf("Has(%v, %d): %v", c.l, c.n, got)
		}
	}
}

// P9.2: at the ends.
func TestAndSub(t *testing.T) {
	all := spans(least, greatest)
	for _, l := range rights() {
		if got := span.And(l, all); !slices.Equal(got, l) {
			t.Errorf("And(%v, all): %v", l, got)
		}
		if got := span.And(all, l); !slices.Equal(got, l) {
			t.Errorf("And(all, %v): %v", l, got)
		}
		if got := span.Sub(l, nil); !slices.Equal(got, l) {
			t.Errorf("Sub(%v, none): %v", l, got)
		}
		rest := span.Sub(all, l)
		if !span.Right(rest...) || !slices.Equal(span.Merge(append(slices.Clone(l), rest...)...), all) {
			t.Errorf("Sub(all, %v): %v", l, rest)
		}
		for _, none := range [][]api.Span{span.Sub(l, all), span.Sub(l, l), span.Sub(nil, l), span.And(l, nil), span.And(nil, l), span.And(l, rest)} {
			if len(none) != 0 {
				t.Errorf("of %v: %v", l, none)
			}
		}
	}
	for _, c := range []struct{ a, b, and, sub []api.Span }{
		{spans(0, 10), spans(2, 4, 6, 8), spans(2, 4, 6, 8), spans(0, 2, 4, 6, 8, 10)},
		{spans(0, 4, 6, 10), spans(2, 8), spans(2, 4, 6, 8), spans(0, 2, 8, 10)},
		{spans(0, 4), spans(4, 8), nil, spans(0, 4)},
		{spans(-9, -5, -1, 1), spans(-20, -8, 0, greatest), spans(-9, -8, 0, 1), spans(-8, -5, -1, 0)},
	} {
		if got := span.And(c.a, c.b); !slices.Equal(got, c.and) {
			t.Errorf("And(%v, %v): %v", c.a, c.b, got)
		}
		if got := span.Sub(c.a, c.b); !slices.Equal(got, c.sub) {
			t.Errorf("Sub(%v, %v): %v", c.a, c.b, got)
		}
	}
}

// P9.2
func TestLen(t *testing.T) {
	for _, c := range []struct {
		l    []api.Span
		want uint64
	}{{nil, 0}, {spans(1, 5), 4}, {spans(1, 5, 7, 8), 5}, {spans(least, greatest), math.MaxUint64}, {spans(least, -1, 0, greatest), math.MaxUint64 - 1}, {spans(-5, 5), 10}, {spans(least, 0), 1 << 63}} {
		if n := span.Len(c.l); n != c.want {
			t.Errorf("Len(%v): %d; want %d", c.l, n, c.want)
		}
	}
}

// Rule 5: what is answered is new.
func TestNew(t *testing.T) {
	a, b := spans(1, 5, 7, 9), spans(0, 20)
	for _, l := range [][]api.Span{span.Merge(a...), span.And(a, b), span.And(b, a), span.Sub(a, nil)} {
		if !slices.Equal(l, a) {
			t.Error(l)
		}
		l[0] = api.Span{From: 100, To: 200}
		_ = append(l[:1], api.Span{From: 300, To: 400})
	}
	if !slices.Equal(a, spans(1, 5, 7, 9)) || !slices.Equal(b, spans(0, 20)) {
		t.Error(a, b)
	}
}

// P1: of rows that aren't right nothing is promised but that all ends.
func TestWrongRows(t *testing.T) {
	l := [][]api.Span{nil, spans(0, 0), spans(5, 1), spans(greatest, least), spans(1, 5, 2, 3, 9, 9, 4, 2), spans(least, greatest, least, greatest), spans(3, 4, 1, 2)}
	for _, a := range l {
		for _, n := range []int{least, -1, 0, 1, 2, 3, 4, 5, greatest} {
			span.Has(a, n)
		}
		span.Len(a)
		for _, b := range l {
			span.And(a, b)
			span.Sub(a, b)
		}
	}
}
