package digits_test

import (
	"math"
	"math/big"
	"strconv"
	"strings"
	"testing"

	"hoistway/api"
	"hoistway/digits"
)

const (
	least    = math.MinInt64
	greatest = math.MaxInt64
)

// edges: where another digit begins, and the ends.
func edges() []int64 {
	l := []int64{0, greatest, greatest - 1, least, least + 1}
	for p := int64(1); ; p *= 10 {
		for _, n := range []int64{p - 1, p, p + 1, p*9 - 1} {
			l = append(l, n, -n)
		}
		if p == 1e18 {
			return l
		}
	}
}

// P2.1
func TestText(t *testing.T) {
	for _, n := range edges() {
		if s := digits.Text(n); s != big.NewInt(n).String() {
			t.Errorf("Text(%d): %q", n, s)
		}
		if s := digits.Of(int(n)); s != big.NewInt(n).String() {
			t.Errorf("Of(%d): %q", n, s)
		}
	}
	for _, c := range []struct {
		n int64
		s string
	}{{0, "0"}, {-1, "-1"}, {-120, "-120"}, {100, "100"}, {least, "-9223372036854775808"}, {greatest, "9223372036854775807"}} {
		if s := digits.Text(c.n); s != c.s {
			t.Errorf("Text(%d): %q", c.n, s)
		}
	}
	if s := digits.Of(math.MinInt); s != strconv.Itoa(math.MinInt) {
		t.Errorf("Of the least: %q", s)
	}
}

// P2.1
func TestReadWhatWasWritten(t *testing.T) {
	for _, n := range edges() {
		if r, e := digits.Read(digits.Text(n)); r != n || e != api.OK {
			t.Errorf("Read(%d): %d, %d", n, r, int(e))
		}
	}
	for n := int64(-2000); n <= 2000; n++ {
		if r, e := digits.Read(digits.Text(n)); r != n || e != api.OK {
			t.Errorf("Read(%d): %d, %d", n, r, int(e))
		}
	}
}

// P2.1: what no Text is has no form.
func TestReadForm(t *testing.T) {
	for _, s := range []string{
		"", "-", "--", "--1", "-0", "00", "01", "-01", "-00", "007", "+1", "+0", "+", "-+1", "+-1", "1-", "1-2", "1+",
		" ", " 1", "1 ", "-1 ", "- 1", "1 2", "\n", "1\n", "\t1", "1,000", "1_000", "1.0", "1.", ".1", "-.1", "1e3", "0x10", "0b1", "0o7",
		"a", "1a", "a1", "/", ":", "1/", "1:", "\x00", "1\x00", "\xff", "１", "٣", "−1", "½", "nil", "Inf",
		strings.Repeat("0", 100), "-" + strings.Repeat("0", 100), "0" + strings.Repeat("9", 30),
		strings.Repeat("9", 30) + "x", "-" + strings.Repeat("9", 30) + " ", "x" + strings.Repeat("9", 30),
		"09223372036854775808", "-09223372036854775809",
	} {
		if n, e := digits.Read(s); n != 0 || e != api.ErrForm {
			t.Errorf("Read(%q): %d, %d", s, n, int(e))
		}
	}
}

// P2.1: the form is looked at first, whatever number there would be; each byte counts, wherever it stands.
func TestReadEachByte(t *testing.T) {
	for c := range 256 {
		for _, s := range []string{string([]byte{byte(c)}), string([]byte{'1', byte(c)}), string([]byte{'1', byte(c), '2'})} {
			n, e := digits.Read(s)
			w, err := strconv.Atoi(s)
			good := err == nil && strconv.Itoa(w) == s
			if good && (n != int64(w) || e != api.OK) || !good && (n != 0 || e != api.ErrForm) {
				t.Errorf("Read(%q): %d, %d", s, n, int(e))
			}
		}
	}
}

// P2.1
func TestReadRange(t *testing.T) {
	for _, s := range []string{
		"9223372036854775808", "-9223372036854775809", "9223372036854775810", "-9223372036854775810", "9223372036854775900",
		"10000000000000000000", "-10000000000000000000", "18446744073709551615", "18446744073709551616", "18446744073709551617",
		"-18446744073709551616", "36893488147419103233", "99999999999999999999",
		"1" + strings.Repeat("0", 1000), "-" + strings.Repeat("9", 100000),
	} {
		if n, e := digits.Read(s); n != 0 || e != api.ErrRange {
			t.Errorf("Read(%q): %d, %d", s, n, int(e))
		}
	}
}

// P2.2
func TestPad(t *testing.T) {
	for _, c := range []struct {
		s     string
		width int
		want  string
	}{
		{"", 0, ""}, {"", 3, "   "}, {"", -3, ""},
		{"ab", 5, "   ab"}, {"ab", 3, " ab"}, {"ab", 2, "ab"}, {"ab", 1, "ab"}, {"ab", 0, "ab"}, {"ab", -1, "ab"},
		{"ab", math.MinInt, "ab"},
		{" a ", 4, "  a "},
		{"é", 3, " é"}, {"\xff\x00", 3, " \xff\x00"}, // wide are bytes, as in layer 16
	} {
		if s := digits.Pad(c.s, c.width); s != c.want {
			t.Errorf("Pad(%q, %d): %q", c.s, c.width, s)
		}
	}
}

// P2.2: no wider than MaxText.
func TestPadWide(t *testing.T) {
	for _, s := range []string{"", "x", "abc"} {
		for _, width := range []int{api.MaxText - 1, api.MaxText, api.MaxText + 1, api.MaxText + 2, 1 << 40, math.MaxInt} {
			cut := min(width, api.MaxText)
			if p := digits.Pad(s, width); p != strings.Repeat(" ", cut-len(s))+s {
				t.Errorf("Pad(%q, %d): %d bytes", s, width, len(p))
			}
		}
	}
	for _, n := range []int{api.MaxText - 1, api.MaxText, api.MaxText + 1, 2 * api.MaxText} {
		long := strings.Repeat("y", n)
		for _, width := range []int{0, n, n - 1} {
			if digits.Pad(long, width) != long {
				t.Errorf("Pad of %d bytes to %d", n, width)
			}
		}
		if p := digits.Pad(long, math.MaxInt); len(p) != max(n, api.MaxText) || !strings.HasSuffix(p, long) {
			t.Errorf("Pad of %d bytes: %d", n, len(p))
		}
	}
}

// P2.2
func TestFixed(t *testing.T) {
	for _, c := range []struct {
		n      int64
		places int
		want   string
	}{
		{-5, 2, "-0.05"}, {5, 2, "0.05"}, {0, 2, "0.00"}, {0, 0, "0"}, {0, 1, "0.0"},
		{12345, 2, "123.45"}, {-12345, 2, "-123.45"}, {12345, 5, "0.12345"}, {12345, 4, "1.2345"}, {12345, 6, "0.012345"},
		{12345, 0, "12345"}, {-12345, 0, "-12345"}, {-7, 1, "-0.7"}, {-70, 1, "-7.0"},
		{7, -1, "7"}, {-7, math.MinInt, "-7"},
		{1, 18, "0.000000000000000001"}, {1, 19, "0.000000000000000001"}, {-1, math.MaxInt, "-0.000000000000000001"},
		{0, 18, "0.000000000000000000"}, {0, 100, "0.000000000000000000"},
		{1, 17, "0.00000000000000001"},
		{1e18, 18, "1.000000000000000000"}, {1e18 - 1, 18, "0.999999999999999999"},
		{least, 0, "-9223372036854775808"}, {least, 1, "-922337203685477580.8"}, {least, 18, "-9.223372036854775808"}, {least, 1000, "-9.223372036854775808"},
		{greatest, 18, "9.223372036854775807"}, {greatest, 2, "92233720368547758.07"}, {greatest, -5, "9223372036854775807"},
	} {
		if s := digits.Fixed(c.n, c.places); s != c.want {
			t.Errorf("Fixed(%d, %d): %q; want %q", c.n, c.places, s, c.want)
		}
	}
}

// P2.2: without its point, its noughts ahead and its sign it is the number, and the point stands where it is to.
func TestFixedIsTheNumber(t *testing.T) {
	for _, n := range edges() {
		for places := range digits.Places + 1 {
			s := digits.Fixed(n, places)
			size, below := strings.CutPrefix(s, "-")
			whole, rest, point := strings.Cut(size, ".")
			if below != (n < 0) || point != (places > 0) || len(rest) != places || whole == "" || len(whole) > 1 && whole[0] == '0' {
				t.Errorf("Fixed(%d, %d): %q", n, places, s)
			}
			b, _ := new(big.Int).SetString(whole+rest, 10)
			if below {
				b.Neg(b)
			}
			if b.Cmp(big.NewInt(n)) != 0 {
				t.Errorf("Fixed(%d, %d): %q", n, places, s)
			}
		}
	}
}

func TestPlaces(t *testing.T) {
	if digits.Places != 18 {
		t.Error(digits.Places)
	}
}

// P2
func TestSameAgain(t *testing.T) {
	for _, n := range edges() {
		first := []string{digits.Text(n), digits.Of(int(n)), digits.Pad(digits.Text(n), 30), digits.Fixed(n, 3)}
		digits.Read(first[2])
		again := []string{digits.Text(n), digits.Of(int(n)), digits.Pad(digits.Text(n), 30), digits.Fixed(n, 3)}
		for i := range first {
			if first[i] != again[i] {
				t.Errorf("of %d: first %q, then %q", n, first[i], again[i])
			}
		}
	}
}
