package frac_test

import (
	"math"
	"math/big"
	"strconv"
	"testing"

	"hoistway/api"
	"hoistway/frac"
)

// edges: numbers from 0 on.
func edges() []int {
	return []int{0, 1, 2, 3, 4, 6, 7, 10, 12, 60, 99, 100, 101, 1 << 31, 1 << 32, 3037000500, math.MaxInt / 100, math.MaxInt/100 + 1, math.MaxInt / 2, math.MaxInt - 1, math.MaxInt}
}

// below: numbers below 0.
func below() []int { return []int{-1, -2, -7, math.MinInt + 1, math.MinInt} }

// rights: some that are right.
func rights() []api.Frac {
	var l []api.Frac
	for _, whole := range []int{0, 1, 2, math.MaxInt/100 - 1, math.MaxInt / 100, math.MaxInt/100 + 1, math.MaxInt - 1, math.MaxInt} {
		for _, by := range edges() {
			for _, rest := range append(edges(), by/2, by/3, by-by/3, by-1) {
				if 0 <= rest && rest < by {
					l = append(l, api.Frac{Whole: whole, Rest: rest, By: by})
				}
			}
		}
	}
	return l
}

// wrongs: some that aren't.
func wrongs() []api.Frac {
	l := []api.Frac{{}, {Whole: 1}, {Rest: 1, By: 1}, {Rest: 2, By: 1}, {Rest: 1}, {By: -1}, {Rest: -1, By: 3}, {Whole: -1, By: 1}, {Whole: -1, Rest: 1, By: 2}, {Rest: -2, By: -1},
		{Rest: math.MaxInt, By: math.MaxInt}, {Rest: math.MinInt, By: math.MaxInt}, {Rest: math.MinInt, By: math.MinInt}, {Rest: 0, By: math.MinInt}, {Whole: math.MinInt, By: 2}, {Whole: math.MinInt, Rest: math.MinInt, By: math.MinInt}}
	for _, n := range below() {
		l = append(l, api.Frac{Whole: n, Rest: 2, By: 4}, api.Frac{Rest: n, By: 4}, api.Frac{Rest: 2, By: n}, api.Frac{Rest: n, By: n})
	}
	return l
}

// value: what one is.
func value(f api.Frac) *big.Rat {
	rest := big.NewRat(int64(f.Rest), int64(f.By))
	return rest.Add(rest, new(big.Rat).SetInt64(int64(f.Whole)))
}

// P8.1
func TestOf(t *testing.T) {
	for _, n := range edges() {
		for _, by := range edges() {
			f, e := frac.Of(n, by)
			if by == 0 {
				if f != (api.Frac{}) || e != api.ErrZero {
					t.Errorf("Of(%d, 0): %v, %d", n, f, int(e))
				}
				continue
			}
			if e != api.OK || f.By != by || !frac.Right(f) || value(f).Cmp(big.NewRat(int64(n), int64(by))) != 0 {
				t.Errorf("Of(%d, %d): %v, %d", n, by, f, int(e))
			}
		}
	}
	if f, e := frac.Of(7, 2); f != (api.Frac{Whole: 3, Rest: 1, By: 2}) || e != api.OK {
		t.Error(f, e)
	}
	for _, n := range below() {
		for _, m := range append(edges(), below()...) {
			if f, e := frac.Of(n, m); f != (api.Frac{}) || e != api.ErrArg {
				t.Errorf("Of(%d, %d): %v, %d", n, m, f, int(e))
			}
			if f, e := frac.Of(m, n); f != (api.Frac{}) || e != api.ErrArg {
				t.Errorf("Of(%d, %d): %v, %d", m, n, f, int(e))
			}
		}
	}
}

// P8.1
func TestRight(t *testing.T) {
	for _, f := range rights() {
		if !frac.Right(f) {
			t.Errorf("Right(%v): false", f)
		}
	}
	for _, f := range wrongs() {
		if frac.Right(f) {
			t.Errorf("Right(%v): true", f)
		}
	}
}

// P8.1
func TestCompare(t *testing.T) {
	for _, c := range []struct {
		a, b api.Frac
		want int
	}{
		{api.Frac{Whole: 1, Rest: 1, By: 2}, api.Frac{Whole: 1, Rest: 2, By: 4}, 0},
		{api.Frac{Whole: 1, Rest: 1, By: 2}, api.Frac{Whole: 1, Rest: 1, By: 3}, 1},
		{api.Frac{Whole: 1, Rest: 1, By: 3}, api.Frac{Whole: 1, Rest: 1, By: 2}, -1},
		{api.Frac{Whole: 2, Rest: 0, By: 9}, api.Frac{Whole: 1, Rest: 8, By: 9}, 1},
		{api.Frac{Whole: 2, Rest: 0, By: 9}, api.Frac{Whole: 2, Rest: 0, By: 1}, 0},
		{api.Frac{Whole: math.MaxInt, Rest: math.MaxInt - 1, By: math.MaxInt}, api.Frac{Whole: math.MaxInt, Rest: math.MaxInt - 2, By: math.MaxInt - 1}, 1},
		{api.Frac{Rest: math.MaxInt - 2, By: math.MaxInt}, api.Frac{Rest: math.MaxInt - 1, By: math.MaxInt}, -1},
		{api.Frac{Rest: 1 << 31, By: 1<<33 + 1}, api.Frac{Rest: 1 << 31, By: 1 << 33}, -1},
	} {
		if n := frac.Compare(c.a, c.b); n != c.want {
			t.Errorf("Compare(%v, %v): %d", c.a, c.b, n)
		}
	}
	l := rights()
	for i := 0; i < len(l); i += 3 {
		for j := 0; j < len(l); j += 7 {
			if n := frac.Compare(l[i], l[j]); n != value(l[i]).Cmp(value(l[j])) {
				t.Fatalf("Compare(%v, %v): %d", l[i], l[j], n)
			}
		}
	}
	// P1: of others nothing is promised but that it ends.
	for _, a := range wrongs() {
		for _, b := range append(wrongs(), l[0]) {
			frac.Compare(a, b)
			frac.Compare(b, a)
		}
	}
}

// P8.1
func TestLeast(t *testing.T) {
	for _, c := range []struct{ f, want api.Frac }{
		{api.Frac{Whole: 3, Rest: 2, By: 4}, api.Frac{Whole: 3, Rest: 1, By: 2}},
		{api.Frac{Whole: 3, Rest: 0, By: 4}, api.Frac{Whole: 3, Rest: 0, By: 1}},
		{api.Frac{Whole: 0, Rest: 0, By: math.MaxInt}, api.Frac{Whole: 0, Rest: 0, By: 1}},
		{api.Frac{Whole: 3, Rest: 3, By: 4}, api.Frac{Whole: 3, Rest: 3, By: 4}},
		{api.Frac{Whole: 0, Rest: 36, By: 60}, api.Frac{Whole: 0, Rest: 3, By: 5}},
	} {
		if f := frac.Least(c.f); f != c.want {
			t.Errorf("Least(%v): %v; want %v", c.f, f, c.want)
		}
	}
	for _, f := range rights() {
		l := frac.Least(f)
		// A quotient of big has the least denominator.
		want := big.NewRat(int64(f.Rest), int64(f.By))
		if l.Whole != f.Whole || big.NewInt(int64(l.Rest)).Cmp(want.Num()) != 0 || big.NewInt(int64(l.By)).Cmp(want.Denom()) != 0 {
			t.Errorf("Least(%v): %v", f, l)
		}
	}
	for _, f := range wrongs() {
		if l := frac.Least(f); l != f {
			t.Errorf("Least(%v): %v", f, l)
		}
	}
}

// P8.2
func TestText(t *testing.T) {
	for _, c := range []struct {
		f    api.Frac
		want string
	}{
		{api.Frac{Whole: 3, Rest: 1, By: 2}, "3 1/2"}, {api.Frac{Whole: 3, Rest: 0, By: 2}, "3"}, {api.Frac{Whole: 0, Rest: 2, By: 4}, "0 2/4"}, {api.Frac{}, "0"},
		{api.Frac{Whole: math.MaxInt, Rest: math.MaxInt - 1, By: math.MaxInt}, "9223372036854775807 9223372036854775806/9223372036854775807"},
		{api.Frac{Whole: -3, Rest: -1, By: 0}, "-3 -1/0"}, {api.Frac{Whole: math.MinInt, Rest: 0, By: -7}, "-9223372036854775808"},
		{api.Frac{Whole: 1, Rest: 7, By: -2}, "1 7/-2"},
	} {
		if s := frac.Text(c.f); s != c.want {
			t.Errorf("Text(%v): %q; want %q", c.f, s, c.want)
		}
	}
	for _, f := range append(rights(), wrongs()...) {
		want := strconv.Itoa(f.Whole)
		if f.Rest != 0 {
			want += " " + strconv.Itoa(f.Rest) + "/" + strconv.Itoa(f.By)
		}
		if s := frac.Text(f); s != want {
			t.Errorf("Text(%v): %q; want %q", f, s, want)
		}
	}
}

// P8.2
func TestHundredths(t *testing.T) {
	for _, c := range []struct {
		f    api.Frac
		want int64
		e    api.Errno
	}{
		{api.Frac{Whole: 3, Rest: 1, By: 2}, 350, api.OK}, {api.Frac{Whole: 0, Rest: 2, By: 3}, 66, api.OK}, {api.Frac{Whole: 0, Rest: 1, By: 101}, 0, api.OK}, {api.Frac{Whole: 0, Rest: 999, By: 1000}, 99, api.OK},
		{api.Frac{Whole: 0, Rest: math.MaxInt - 1, By: math.MaxInt}, 99, api.OK},
		{api.Frac{Whole: 92233720368547758, Rest: 7, By: 100}, math.MaxInt64, api.OK},
		{api.Frac{Whole: 92233720368547758, Rest: 79, By: 1000}, math.MaxInt64, api.OK},
		{api.Frac{Whole: 92233720368547758, Rest: 8, By: 100}, 0, api.ErrRange},
		{api.Frac{Whole: 92233720368547759, Rest: 0, By: 100}, 0, api.ErrRange},
	} {
		if n, e := frac.Hundredths(c.f); n != c.want || e != c.e {
			t.Errorf("Hundredths(%v): %d, %d; want %d, %d", c.f, n, int(e), c.want, int(c.e))
		}
	}
	for _, f := range rights() {
		v := new(big.Rat).Mul(value(f), big.NewRat(100, 1))
		want := new(big.Int).Quo(v.Num(), v.Denom())
		n, e := frac.Hundredths(f)
		if want.IsInt64() && (n != want.Int64() || e != api.OK) || !want.IsInt64() && (n != 0 || e != api.ErrRange) {
			t.Errorf("Hundredths(%v): %d, %d; want %v", f, n, int(e), want)
		}
	}
	for _, f := range wrongs() {
		if n, e := frac.Hundredths(f); n != 0 || e != api.ErrArg {
			t.Errorf("Hundredths(%v): %d, %d", f, n, int(e))
		}
	}
	// ErrArg comes ahead of ErrRange.
	if n, e := frac.Hundredths(api.Frac{Whole: math.MaxInt, Rest: 1, By: 1}); n != 0 || e != api.ErrArg {
		t.Error(n, e)
	}
}

// P8.3
func TestMean(t *testing.T) {
	const m = math.MaxInt
	for _, c := range []struct {
		l    []int
		want api.Frac
		e    api.Errno
	}{
		{[]int{1, 2, 4}, api.Frac{Whole: 2, Rest: 1, By: 3}, api.OK},
		{[]int{0}, api.Frac{By: 1}, api.OK}, {[]int{0, 0}, api.Frac{By: 2}, api.OK}, {[]int{5, 5}, api.Frac{Whole: 5, By: 2}, api.OK},
		{[]int{m}, api.Frac{Whole: m, By: 1}, api.OK}, {[]int{m, 0, 0}, api.Frac{Whole: m / 3, Rest: m % 3, By: 3}, api.OK}, {[]int{m - 1, 1}, api.Frac{Whole: m / 2, Rest: 1, By: 2}, api.OK},
		{[]int{m, 1}, api.Frac{}, api.ErrRange}, {[]int{m, m}, api.Frac{}, api.ErrRange}, {[]int{m, m, m}, api.Frac{}, api.ErrRange}, {[]int{0, 1, m, 0}, api.Frac{}, api.ErrRange},
		{[]int{-1}, api.Frac{}, api.ErrArg}, {[]int{1, 2, -1}, api.Frac{}, api.ErrArg}, {[]int{math.MinInt, 5}, api.Frac{}, api.ErrArg},
		// ErrArg comes first, wherever it stands, and though the sum is a number again.
		{[]int{m, 1, -1}, api.Frac{}, api.ErrArg}, {[]int{-1, m, 1}, api.Frac{}, api.ErrArg}, {[]int{m, m, m, -5}, api.Frac{}, api.ErrArg},
		{nil, api.Frac{}, api.ErrZero}, {[]int{}, api.Frac{}, api.ErrZero},
	} {
		if f, e := frac.Mean(c.l...); f != c.want || e != c.e {
			t.Errorf("Mean(%v): %v, %d; want %v, %d", c.l, f, int(e), c.want, int(c.e))
		}
	}
}
