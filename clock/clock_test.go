package clock_test

import (
	"fmt"
	"math"
	"strings"
	"testing"

	"hoistway/api"
	"hoistway/clock"
)

// texts: ticks and their texts, written out.
func texts() map[int64]string {
	return map[int64]string{
		0: "00:00:00", 1: "00:00:01", 9: "00:00:09", 10: "00:00:10", 59: "00:00:59", 60: "00:01:00", 61: "00:01:01", 599: "00:09:59", 600: "00:10:00", 3599: "00:59:59", 3600: "01:00:00", 3661: "01:01:01",
		36000: "10:00:00", 82800: "23:00:00", 86399: "23:59:59", 86400: "1d00:00:00", 86401: "1d00:00:01", 90061: "1d01:01:01", 172799: "1d23:59:59", 172800: "2d00:00:00", 863999: "9d23:59:59", 864000: "10d00:00:00",
		1 << 40: "12725829d00:36:16", math.MaxInt64: "106751991167300d15:30:07",
	}
}

// P52.1
func TestText(t *testing.T) {
	if clock.Day != 86400 {
		t.Error(clock.Day)
	}
	for n, want := range texts() {
		if s := clock.Text(n); s != want {
			t.Errorf("Text(%d): %q; want %q", n, s, want)
		}
		if n > 0 {
			if s := clock.Text(-n); s != "-"+want {
				t.Errorf("Text(%d): %q; want -%s", -n, s, want)
			}
		}
	}
	if s := clock.Text(math.MinInt64); s != "-106751991167300d15:30:07" {
		t.Error(s)
	}
	if s := clock.Text(math.MinInt64 + 1); s != "-106751991167300d15:30:07" {
		t.Error(s)
	}
}

// P52.1: each second of the days at their ends.
func TestTextOfDays(t *testing.T) {
	for n := range int64(2*clock.Day + 10) {
		want := fmt.Sprintf("%02d:%02d:%02d", n%86400/3600, n%3600/60, n%60)
		if n >= 86400 {
			want = fmt.Sprintf("%dd%s", n/86400, want)
		}
		if s := clock.Text(n); s != want {
			t.Fatalf("Text(%d): %q; want %q", n, s, want)
		}
		if got, e := clock.Read(want); got != n || e != api.OK {
			t.Fatalf("Read(%q): %d, %d", want, got, int(e))
		}
	}
}

// P52.1
func TestSpan(t *testing.T) {
	for _, c := range []struct {
		s    api.Span
		want string
	}{
		{api.Span{}, "00:00:00-00:00:00"}, {api.Span{From: 28800, To: 32400}, "08:00:00-09:00:00"}, {api.Span{From: 90061, To: 5}, "1d01:01:01-00:00:05"}, {api.Span{From: -1, To: -2}, "-00:00:01--00:00:02"},
		{api.Span{From: math.MinInt, To: math.MaxInt}, "-106751991167300d15:30:07-106751991167300d15:30:07"},
	} {
		if s := clock.Span(c.s); s != c.want {
			t.Errorf("Span(%v): %q; want %q", c.s, s, c.want)
		}
	}
}

// P52.2: what was written is read, up to 2^40.
func TestRead(t *testing.T) {
	const most = 1 << 40
	for _, n := range []int64{0, 1, 59, 60, 3599, 3600, 86399, 86400, 90061, 863999, 864000, 1 << 31, 1 << 32, most / 86400 * 86400, most/86400*86400 - 1, most - 1, most} {
		if got, e := clock.Read(clock.Text(n)); got != n || e != api.OK {
			t.Errorf("Read(%q): %d, %d; want %d", clock.Text(n), got, int(e), n)
		}
	}
	for _, n := range []int64{most + 1, most + 60, most + 86400, (most/86400 + 1) * 86400, 1 << 41, math.MaxInt64 - 1, math.MaxInt64} {
		if got, e := clock.Read(clock.Text(n)); got != 0 || e != api.ErrRange {
			t.Errorf("Read(%q): %d, %d", clock.Text(n), got, int(e))
		}
	}
}

// P52.2: days of any number of digits.
func TestReadOfManyDays(t *testing.T) {
	for _, days := range []string{"106751991167300", "106751991167301", "213503982334601", "9223372036854775807", "9223372036854775808", "18446744073709551616", "18446744073709551617", strings.Repeat("9", 1000), "1" + strings.Repeat("0", 100000)} {
		if n, e := clock.Read(days + "d00:00:00"); n != 0 || e != api.ErrRange {
			t.Errorf("Read of %d digits: %d, %d", len(days), n, int(e))
		}
		// ErrForm comes first.
		for _, s := range []string{days + "d24:00:00", days + "d00:00:0", "-" + days + "d00:00:00", "0" + days + "d00:00:00", days + "x" + "d00:00:00", days + "d", days} {
			if n, e := clock.Read(s); n != 0 || e != api.ErrForm {
				t.Errorf("Read of %.40q: %d, %d", s, n, int(e))
			}
		}
	}
}

// P52.2: texts of no ticks from 0 on.
func TestReadWrong(t *testing.T) {
	for _, s := range []string{
		"", " ", "0", "1", "00", "00:00", "00:00:0", "0:00:00", "00:0:00", "00:00:000", "000:00:00", "00:00:00 ", " 00:00:00", "00:00:00\n", "00 00 00", "00:00 00", "00.00:00", "00:00:00:00", "00::00:00", ":00:00:00",
		"24:00:00", "99:00:00", "00:60:00", "00:00:60", "00:99:00", "00:00:99", "0a:00:00", "a0:00:00", "00:0a:00", "00:a0:00", "00:00:0a", "00:00:a0", "/0:00:00", "0/:00:00", ":0:00:00", "00:00:0:", "00:00:/0",
		"-00:00:01", "-00:00:00", "+00:00:01", "-1d00:00:00", "+1d00:00:00", "00:-1:00", "-0:00:00", "+1:00:00", "00:00:-1", "00:00:+1",
		"d00:00:00", "0d00:00:00", "00d00:00:00", "01d00:00:00", "-0d00:00:00", " 1d00:00:00", "1 d00:00:00", "1d 00:00:00", "1D00:00:00", "1dd00:00:00", "1d1d00:00:00", "1d", "d", "1d00:00", "1d24:00:00", "1d23:60:00", "1d23:59:60", "1d0:00:00", "1d-00:00:01", "1.5d00:00:00", "1e3d00:00:00",
		"00:00:00d", "00:00:00d00:00:00", "٠٠:٠٠:٠٠", "0\xff:00:00", "0d:00:00", "1d\x0000:00:00",
	} {
		if n, e := clock.Read(s); n != 0 || e != api.ErrForm {
			t.Errorf("Read(%q): %d, %d", s, n, int(e))
		}
	}
}
