package rota_test

import (
	"math"
	"slices"
	"testing"

	"hoistway/api"
	"hoistway/rota"
	"hoistway/span"
)

const (
	least    = math.MinInt
	greatest = math.MaxInt
)

// spans: from and to by turns.
func spans(l ...int) []api.Span {
	var s []api.Span
	for i := 0; i < len(l); i += 2 {
		s = append(s, api.Span{From: l[i], To: l[i+1]})
	}
	return s
}

// made: a rota of which a car is out of service in some spans.
func made(car int, out ...int) *rota.Rota {
	r := &rota.Rota{}
	for _, s := range spans(out...) {
		r.Out(car, s)
	}
	return r
}

// ticks: at the ends, and around some small ones.
func ticks() []int { return []int{least, least + 1, -100, -1, 0, 1, 5, 100, greatest - 1, greatest} }

// empties: spans that have no number.
func empties() []api.Span {
	return spans(0, 0, 5, 5, 5, 4, 9, -9, greatest, least, least, least, greatest, greatest, 0, least, greatest, 0, 1, 0)
}

// P68.1, P68.2: the zero Rota: never.
func TestZero(t *testing.T) {
	var r rota.Rota
	for car := range 17 {
		if l := r.Spans(car); len(l) != 0 {
			t.Errorf("Spans(%d): %v", car, l)
		}
		for _, tick := range ticks() {
			if !r.Serves(car, tick) || r.Back(car, tick) != tick {
				t.Errorf("car %d, tick %d: %v, %d", car, tick, r.Serves(car, tick), r.Back(car, tick))
			}
			if n := r.Many(car, tick); n != min(car, 16) {
				t.Errorf("Many(%d, %d): %d", car, tick, n)
			}
		}
		if car > 0 {
			if l := r.None(car, api.Span{From: least, To: greatest}); len(l) != 0 {
				t.Errorf("None(%d): %v", car, l)
			}
		}
	}
	// To be in service again changes nothing where a car never was out.
	r.In(0, api.Span{From: 3, To: 9})
	if len(r.Spans(0)) != 0 || !r.Serves(0, 5) {
		t.Error(r.Spans(0))
	}
}

// P68.1
func TestSpans(t *testing.T) {
	for _, c := range []struct{ out, want []int }{
		{[]int{5, 9}, []int{5, 9}}, {[]int{5, 9, 9, 12}, []int{5, 12}}, {[]int{9, 12, 5, 9}, []int{5, 12}}, {[]int{5, 9, 10, 12}, []int{5, 9, 10, 12}}, {[]int{10, 12, 5, 9}, []int{5, 9, 10, 12}}, {[]int{5, 9, 1, 20}, []int{1, 20}}, {[]int{1, 20, 5, 9}, []int{1, 20}}, {[]int{5, 9, 5, 9}, []int{5, 9}},
		{[]int{1, 2, 3, 4, 5, 6, 2, 5}, []int{1, 6}}, {[]int{1, 2, 5, 6, 3, 4}, []int{1, 2, 3, 4, 5, 6}}, {[]int{-9, -5, 0, 1}, []int{-9, -5, 0, 1}}, {[]int{least, greatest}, []int{least, greatest}}, {[]int{least, 0, 0, greatest}, []int{least, greatest}}, {[]int{greatest - 1, greatest, least, least + 1}, []int{least, least + 1, greatest - 1, greatest}},
		{[]int{5, 5}, nil}, {[]int{9, 5}, nil}, {[]int{5, 9, 7, 7, 9, 6, greatest, least}, []int{5, 9}},
	} {
		for _, car := range []int{0, 3, 15} {
			r := made(car, c.out...)
			if got := r.Spans(car); !slices.Equal(got, spans(c.want...)) {
				t.Errorf("Out of car %d at %v: %v; want %v", car, c.out, got, c.want)
			}
			if got := r.Spans(car + 1); len(got) != 0 {
				t.Errorf("Spans of the car behind %d: %v", car, got)
			}
		}
	}
}

// P68.1
func TestIn(t *testing.T) {
	for _, c := range []struct{ out, in, want []int }{
		{[]int{5, 9}, []int{5, 9}, nil}, {[]int{5, 9}, []int{0, 20}, nil}, {[]int{5, 9}, []int{6, 8}, []int{5, 6, 8, 9}}, {[]int{5, 9}, []int{0, 6}, []int{6, 9}}, {[]int{5, 9}, []int{8, 20}, []int{5, 8}}, {[]int{5, 9}, []int{9, 20}, []int{5, 9}}, {[]int{5, 9}, []int{0, 5}, []int{5, 9}},
		{[]int{5, 9}, []int{7, 7}, []int{5, 9}}, {[]int{5, 9}, []int{8, 6}, []int{5, 9}}, {[]int{5, 9}, []int{greatest, least}, []int{5, 9}}, {[]int{1, 3, 5, 7, 9, 11}, []int{2, 10}, []int{1, 2, 10, 11}}, {[]int{1, 3, 5, 7, 9, 11}, []int{5, 7}, []int{1, 3, 9, 11}},
		{[]int{least, greatest}, []int{0, 1}, []int{least, 0, 1, greatest}}, {[]int{least, greatest}, []int{least, greatest}, nil}, {[]int{least, greatest}, []int{least, 0}, []int{0, greatest}}, {[]int{5, 9}, []int{5, 6, 7, 8}, []int{6, 7, 8, 9}}, {nil, []int{1, 5}, nil},
	} {
		r := made(2, c.out...)
		r.Out(1, api.Span{From: 0, To: 100})
		for _, s := range spans(c.in...) {
			r.In(2, s)
		}
		if got := r.Spans(2); !slices.Equal(got, spans(c.want...)) {
			t.Errorf("Out at %v, In at %v: %v; want %v", c.out, c.in, got, c.want)
		}
		if got := r.Spans(1); !slices.Equal(got, spans(0, 100)) {
			t.Errorf("the other car: %v", got)
		}
	}
	// Out, in, and out again.
	r := made(0, 5, 9)
	r.In(0, api.Span{From: 0, To: 100})
	r.Out(0, api.Span{From: 7, To: 12})
	if got := r.Spans(0); !slices.Equal(got, spans(7, 12)) {
		t.Error(got)
	}
}

// P68.1: a span without a tick changes nothing.
func TestEmptySpans(t *testing.T) {
	for _, s := range empties() {
		r := made(0, 5, 9)
		r.Out(0, s)
		r.In(0, s)
		r.Out(1, s)
		r.In(2, s)
		if !slices.Equal(r.Spans(0), spans(5, 9)) || len(r.Spans(1)) != 0 || len(r.Spans(2)) != 0 {
			t.Errorf("of %v: %v, %v, %v", s, r.Spans(0), r.Spans(1), r.Spans(2))
		}
		if l := r.None(1, s); len(l) != 0 {
			t.Errorf("None of %v: %v", s, l)
		}
	}
}

// P68.1, P68.2
func TestServesBack(t *testing.T) {
	r := made(0, 5, 9, 12, 13)
	for tick, back := range map[int]int{least: least, -1: -1, 0: 0, 4: 4, 5: 9, 6: 9, 7: 9, 8: 9, 9: 9, 10: 10, 11: 11, 12: 13, 13: 13, 14: 14, greatest: greatest} {
		if got := r.Back(0, tick); got != back {
			t.Errorf("Back(0, %d): %d; want %d", tick, got, back)
		}
		if got := r.Serves(0, tick); got != (tick == back) {
			t.Errorf("Serves(0, %d): %v", tick, got)
		}
		if got := r.Back(1, tick); got != tick || !r.Serves(1, tick) {
			t.Errorf("Back(1, %d): %d", tick, got)
		}
	}
	// Spans side by side are one.
	r = made(4, 5, 9, 9, 20, 21, 30)
	if r.Back(4, 5) != 20 || r.Back(4, 20) != 20 || r.Back(4, 21) != 30 || r.Serves(4, 9) || !r.Serves(4, 20) {
		t.Error(r.Back(4, 5), r.Back(4, 20), r.Back(4, 21))
	}
}

// P68.2: out of service up to 2^63 - 1.
func TestBackOfAll(t *testing.T) {
	r := made(0, 10, greatest)
	if r.Back(0, 9) != 9 || r.Back(0, 10) != greatest || r.Back(0, greatest-1) != greatest || r.Back(0, greatest) != greatest || r.Serves(0, greatest-1) {
		t.Error(r.Back(0, 9), r.Back(0, 10), r.Back(0, greatest-1), r.Back(0, greatest))
	}
	r = made(0, least, greatest)
	for _, tick := range ticks() {
		if got := r.Back(0, tick); got != greatest || r.Serves(0, tick) != (tick == greatest) {
			t.Errorf("Back(0, %d): %d, %v", tick, got, r.Serves(0, tick))
		}
	}
	r = made(0, least, -5)
	if r.Back(0, least) != -5 || r.Back(0, -6) != -5 || r.Back(0, -5) != -5 {
		t.Error(r.Back(0, least))
	}
}

// P68.2
func TestMany(t *testing.T) {
	r := &rota.Rota{}
	for car := range 16 {
		r.Out(car, api.Span{From: car, To: 20})
	}
	for cars := -2; cars <= 16; cars++ {
		for tick := -2; tick <= 22; tick++ {
			want := 0
			for car := range cars {
				if tick < car || tick >= 20 {
					want++
				}
			}
			if got := r.Many(cars, tick); got != want {
				t.Errorf("Many(%d, %d): %d; want %d", cars, tick, got, want)
			}
		}
	}
	// At most MaxCars, and none of fewer than none.
	for _, cars := range []int{16, 17, 18, 1000, 1 << 40, greatest} {
		if got := r.Many(cars, 3); got != 12 {
			t.Errorf("Many(%d, 3): %d", cars, got)
		}
		if got := r.Many(cars, 100); got != 16 {
			t.Errorf("Many(%d, 100): %d", cars, got)
		}
	}
	for _, cars := range []int{0, -1, -16, least} {
		if got := r.Many(cars, 100); got != 0 {
			t.Errorf("Many(%d, 100): %d", cars, got)
		}
	}
}

// P68.2
func TestNone(t *testing.T) {
	r := made(0, 5, 10, 20, 30)
	for _, s := range spans(0, 7, 9, 22, 25, 28) {
		r.Out(1, s)
	}
	r.Out(2, api.Span{From: 26, To: 27})
	for _, c := range []struct {
		cars int
		of   api.Span
		want []api.Span
	}{
		{1, api.Span{From: 0, To: 100}, spans(5, 10, 20, 30)}, {2, api.Span{From: 0, To: 100}, spans(5, 7, 9, 10, 20, 22, 25, 28)}, {3, api.Span{From: 0, To: 100}, spans(26, 27)}, {4, api.Span{From: 0, To: 100}, nil}, {16, api.Span{From: 0, To: 100}, nil},
		{2, api.Span{From: 6, To: 21}, spans(6, 7, 9, 10, 20, 21)}, {2, api.Span{From: 10, To: 20}, nil}, {1, api.Span{From: 5, To: 10}, spans(5, 10)}, {1, api.Span{From: 6, To: 7}, spans(6, 7)}, {1, api.Span{From: least, To: greatest}, spans(5, 10, 20, 30)}, {1, api.Span{From: 7, To: 6}, nil}, {1, api.Span{From: 7, To: 7}, nil},
		// Of no cars none is in service.
		{0, api.Span{From: 3, To: 8}, spans(3, 8)}, {0, api.Span{From: least, To: greatest}, spans(least, greatest)}, {0, api.Span{From: 8, To: 3}, nil},
	} {
		if got := r.None(c.cars, c.of); !slices.Equal(got, c.want) {
			t.Errorf("None(%d, %v): %v; want %v", c.cars, c.of, got, c.want)
		}
	}
	// At most MaxCars.
	r = &rota.Rota{}
	for car := range 16 {
		r.Out(car, api.Span{From: 0, To: 10 + car})
	}
	for _, cars := range []int{16, 17, 1000, greatest} {
		if got := r.None(cars, api.Span{From: 4, To: 100}); !slices.Equal(got, spans(4, 10)) {
			t.Errorf("None(%d): %v", cars, got)
		}
	}
	r.In(15, api.Span{From: 5, To: 6})
	if got := r.None(16, api.Span{From: 4, To: 100}); !slices.Equal(got, spans(4, 5, 6, 10)) {
		t.Error(got)
	}
	if got := r.None(15, api.Span{From: 4, To: 100}); !slices.Equal(got, spans(4, 10)) {
		t.Error(got)
	}
}

// last is behind all ticks of the steps below.
const last = 24

// P68.1, P68.2: held against each tick by itself, step by step.
func TestSteps(t *testing.T) {
	var r rota.Rota
	var out [17][last]bool
	seed := uint32(1)
	next := func(below int) int {
		seed = seed*1664525 + 1013904223
		return int(seed>>8) % below
	}
	for range 2000 {
		car, from, to := next(4), next(last), next(last+1)
		away := next(3) > 0
		if away {
			r.Out(car, api.Span{From: from, To: to})
		} else {
			r.In(car, api.Span{From: from, To: to})
		}
		for tick := from; tick < to; tick++ {
			out[car][tick] = away
		}
		hold(t, &r, &out)
		if t.Failed() {
			return
		}
	}
}

func hold(t *testing.T, r *rota.Rota, out *[17][last]bool) {
	for car := range 5 {
		if l := r.Spans(car); !span.Right(l...) {
			t.Errorf("Spans(%d): %v", car, l)
		}
		back := last
		for tick := last - 1; tick >= 0; tick-- {
			if !out[car][tick] {
				back = tick
			}
			if r.Serves(car, tick) == out[car][tick] || span.Has(r.Spans(car), tick) != out[car][tick] || r.Back(car, tick) != back {
				t.Errorf("car %d, tick %d: %v, %d", car, tick, r.Spans(car), r.Back(car, tick))
			}
		}
	}
	for cars := range 6 {
		none := r.None(cars, api.Span{From: 2, To: last - 2})
		if !span.Right(none...) {
			t.Errorf("None(%d): %v", cars, none)
		}
		for tick := range last {
			many := 0
			for car := range cars {
				if !out[car][tick] {
					many++
				}
			}
			if r.Many(cars, tick) != many || span.Has(none, tick) != (many == 0 && tick >= 2 && tick < last-2) {
				t.Errorf("of %d cars at %d: %d, %v", cars, tick, r.Many(cars, tick), none)
			}
		}
	}
}

// Rule 5: what is answered is new; what is asked changes nothing.
func TestNew(t *testing.T) {
	r := made(0, 5, 9, 12, 15)
	for _, l := range [][]api.Span{r.Spans(0), r.None(1, api.Span{From: 0, To: 100})} {
		if !slices.Equal(l, spans(5, 9, 12, 15)) {
			t.Error(l)
		}
		l[0] = api.Span{From: 100, To: 200}
		_ = append(l[:1], api.Span{From: 300, To: 400})
	}
	r.Many(3, 6)
	r.Back(0, 6)
	r.Serves(0, 6)
	if got := r.Spans(0); !slices.Equal(got, spans(5, 9, 12, 15)) {
		t.Error(got)
	}
}
