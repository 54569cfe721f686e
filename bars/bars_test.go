package bars_test

import (
	"math"
	"math/big"
	"slices"
	"strings"
	"testing"

	"hoistway/api"
	"hoistway/bars"
)

// P55.1
func TestLong(t *testing.T) {
	if bars.Most != 200 {
		t.Error(bars.Most)
	}
	for _, c := range []struct{ n, greatest, long, want int }{
		{1, 3, 10, 4}, {0, 0, 10, 0}, {0, 0, 1, 0}, {0, 0, 200, 0}, {0, 5, 10, 0}, {5, 5, 10, 10}, {1, 1000000, 10, 1}, {999999, 1000000, 10, 10}, {1, 10, 10, 1}, {1, 1, 1, 1}, {1, 2, 1, 1}, {2, 3, 200, 134},
		{math.MaxInt, math.MaxInt, 200, 200}, {math.MaxInt - 1, math.MaxInt, 200, 200}, {1, math.MaxInt, 200, 1}, {0, math.MaxInt, 200, 0}, {math.MaxInt/200 + 1, math.MaxInt, 200, 2}, {math.MaxInt / 200, math.MaxInt, 200, 1}, {1 << 62, math.MaxInt, 200, 101}, {1<<62 - 1, math.MaxInt, 200, 100},
	} {
		if got, e := bars.Long(c.n, c.greatest, c.long); got != c.want || e != api.OK {
			t.Errorf("Long(%d, %d, %d): %d, %d; want %d", c.n, c.greatest, c.long, got, int(e), c.want)
		}
	}
}

// long: by the document's words.
func long(n, greatest, long int) int {
	if n == 0 {
		return 0
	}
	times := new(big.Int).Mul(big.NewInt(int64(n)), big.NewInt(int64(long)))
	whole, rest := new(big.Int).DivMod(times, big.NewInt(int64(greatest)), new(big.Int))
	if rest.Sign() > 0 {
		return int(whole.Int64()) + 1
	}
	return int(whole.Int64())
}

// P55.1: numbers of all sizes, and wrong ones.
func TestLongOfAll(t *testing.T) {
	sizes := []int{math.MinInt, -1000, -1, 0, 1, 2, 3, 7, 10, 99, 200, 201, 12345, 1 << 40, 1<<56 + 1, math.MaxInt / 200, math.MaxInt/200 + 1, math.MaxInt - 1, math.MaxInt}
	for _, n := range sizes {
		for _, greatest := range sizes {
			for _, l := range []int{math.MinInt, -1, 0, 1, 2, 3, 10, 77, 199, 200, 201, 1 << 32, 1<<32 + 5, math.MaxInt} {
				want, e := 0, api.ErrArg
				if n >= 0 && n <= greatest && l >= 1 && l <= 200 {
					want, e = long(n, greatest, l), api.OK
				}
				if got, err := bars.Long(n, greatest, l); got != want || err != e {
					t.Errorf("Long(%d, %d, %d): %d, %d; want %d, %d", n, greatest, l, got, int(err), want, int(e))
				}
			}
		}
	}
	for greatest := range 30 {
		for n := range greatest + 1 {
			for l := 1; l <= 200; l++ {
				if got, e := bars.Long(n, greatest, l); got != long(n, greatest, l) || e != api.OK {
					t.Fatalf("Long(%d, %d, %d): %d, %d", n, greatest, l, got, int(e))
				}
			}
		}
	}
}

// P55.2
func TestText(t *testing.T) {
	for _, c := range []struct {
		names []string
		l     []int
		long  int
		want  string
	}{
		{[]string{"a", "lunch", ""}, []int{1, 3, 0}, 10, "    a |==== 1\nlunch |========== 3\n      | 0\n"},
		{[]string{"a"}, []int{7}, 1, "a |= 7\n"}, {[]string{""}, []int{0}, 5, " | 0\n"}, {[]string{"x", "y"}, []int{0, 0}, 5, "x | 0\ny | 0\n"}, {[]string{"x", "x"}, []int{1, 1000}, 3, "x |= 1\nx |=== 1000\n"},
		// Names are as wide as they have bytes.
		{[]string{"é", "a", "ab"}, []int{1, 2, 2}, 2, "é |= 1\n a |== 2\nab |== 2\n"}, {[]string{"a b|=", "\n"}, []int{4, 2}, 2, "a b|= |== 4\n    \n |= 2\n"},
		{[]string{"most"}, []int{math.MaxInt}, 4, "most |==== 9223372036854775807\n"},
		{nil, nil, 10, ""}, {[]string{}, []int{}, 10, ""}, {nil, []int{}, 200, ""},
		// Of nothing no number has an error.
		{nil, nil, 0, ""}, {nil, nil, 201, ""}, {nil, nil, math.MinInt, ""},
	} {
		names, l := slices.Clone(c.names), slices.Clone(c.l)
		if got, e := bars.Text(c.names, c.l, c.long); got != c.want || e != api.OK {
			t.Errorf("Text(%q, %v, %d): %q, %d; want %q", c.names, c.l, c.long, got, int(e), c.want)
		}
		if !slices.Equal(names, c.names) || !slices.Equal(l, c.l) {
			t.Errorf("%q, %v: changed", names, l)
		}
	}
	if got, e := bars.Text([]string{"x"}, []int{5}, 200); got != "x |"+strings.Repeat("=", 200)+" 5\n" || e != api.OK {
		t.Errorf("Text: %q, %d", got, int(e))
	}
}

// P55.2: a name has blanks ahead as layer 2's Pad puts them, which is up to MaxText.
func TestWide(t *testing.T) {
	for _, wide := range []int{api.MaxText, api.MaxText + 1} {
		name := strings.Repeat("n", wide)
		want := name + " |= 1\n" + strings.Repeat(" ", api.MaxText-1) + "x |= 1\n"
		if got, e := bars.Text([]string{name, "x"}, []int{1, 1}, 1); got != want || e != api.OK {
			t.Errorf("Text of %d: %d bytes, %d", wide, len(got), int(e))
		}
	}
}

// P55.2
func TestTextWrong(t *testing.T) {
	for _, c := range []struct {
		names []string
		l     []int
		long  int
	}{
		{[]string{"a"}, nil, 5}, {nil, []int{1}, 5}, {[]string{"a", "b"}, []int{1}, 5}, {[]string{"a"}, []int{1, 2}, 5}, {[]string{"a"}, []int{}, 0},
		{[]string{"a", "b"}, []int{1, -1}, 5}, {[]string{"a", "b"}, []int{-1, 1}, 5}, {[]string{"a"}, []int{-1}, 5}, {[]string{"a", "b"}, []int{-5, -2}, 5}, {[]string{"a"}, []int{math.MinInt}, 5},
		{[]string{"a"}, []int{1}, 0}, {[]string{"a"}, []int{1}, 201}, {[]string{"a"}, []int{0}, 0}, {[]string{"a"}, []int{0}, -1}, {[]string{"a"}, []int{0}, math.MinInt}, {[]string{"a"}, []int{0}, math.MaxInt},
	} {
		if got, e := bars.Text(c.names, c.l, c.long); got != "" || e != api.ErrArg {
			t.Errorf("Text(%q, %v, %d): %q, %d", c.names, c.l, c.long, got, int(e))
		}
	}
}
