package pack_test

import (
	"bytes"
	"encoding/binary"
	"math"
	"slices"
	"strings"
	"testing"

	"hoistway/api"
	"hoistway/pack"
)

// numbers: where another byte begins, the ends, and some between.
func numbers() []uint64 {
	l := []uint64{0, 1, 2, 3, 300, 1000, math.MaxUint64, math.MaxUint64 - 1, math.MaxInt64, 1 << 63, 0xaaaaaaaaaaaaaaaa, 0x0102030405060708}
	for p := uint64(128); p != 0; p <<= 7 {
		l = append(l, p-1, p, p+1, p*2-1)
	}
	return l
}

// signed: the numbers of numbers, and as many below 0.
func signed() []int64 {
	l := []int64{math.MinInt64, math.MinInt64 + 1}
	for _, n := range numbers() {
		l = append(l, int64(n), -int64(n))
	}
	return l
}

// P4.1: bytes written out.
func TestPut(t *testing.T) {
	full := bytes.Repeat([]byte{255}, 9)
	for _, c := range []struct {
		n    uint64
		want []byte
	}{
		{0, []byte{0}}, {1, []byte{1}}, {127, []byte{127}}, {128, []byte{128, 1}}, {300, []byte{172, 2}}, {256, []byte{128, 2}},
		{16383, []byte{255, 127}}, {16384, []byte{128, 128, 1}},
		{1<<63 - 1, append(slices.Clone(full[:8]), 127)},
		{1 << 63, append(bytes.Repeat([]byte{128}, 9), 1)},
		{math.MaxUint64, append(slices.Clone(full), 1)},
	} {
		if b := pack.Put(nil, c.n); !bytes.Equal(b, c.want) {
			t.Errorf("Put(%d): %v; want %v", c.n, b, c.want)
		}
	}
	for _, n := range numbers() {
		if b := pack.Put(nil, n); !bytes.Equal(b, binary.AppendUvarint(nil, n)) {
			t.Errorf("Put(%d): %v", n, b)
		}
	}
}

// P4.1: what is there already stays, ahead.
func TestPutBehind(t *testing.T) {
	for _, ahead := range [][]byte{nil, {}, {9}, {128, 0, 255}, make([]byte, 3, 100)} {
		as := slices.Clone(ahead)
		for _, c := range []struct {
			name      string
			got, want []byte
		}{
			{"Put", pack.Put(slices.Clip(ahead), 300), []byte{172, 2}},
			{"PutInt", pack.PutInt(slices.Clip(ahead), -151), []byte{173, 2}},
			{"PutText", pack.PutText(slices.Clip(ahead), "ab"), []byte{2, 'a', 'b'}},
			{"PutText of none", pack.PutText(slices.Clip(ahead), ""), []byte{0}},
		} {
			if !bytes.Equal(c.got, append(slices.Clone(as), c.want...)) || !bytes.Equal(ahead, as) {
				t.Errorf("%s behind %v: %v", c.name, as, c.got)
			}
		}
	}
}

// P4.1
func TestFold(t *testing.T) {
	for _, c := range []struct {
		n    int64
		want uint64
	}{{0, 0}, {-1, 1}, {1, 2}, {-2, 3}, {2, 4}, {150, 300}, {-151, 301}, {math.MaxInt64, math.MaxUint64 - 1}, {math.MinInt64, math.MaxUint64}, {math.MinInt64 + 1, math.MaxUint64 - 2}} {
		if got := pack.Fold(c.n); got != c.want {
			t.Errorf("Fold(%d): %d; want %d", c.n, got, c.want)
		}
		if got := pack.Unfold(c.want); got != c.n {
			t.Errorf("Unfold(%d): %d; want %d", c.want, got, c.n)
		}
	}
	for _, n := range signed() {
		if got := pack.Unfold(pack.Fold(n)); got != n {
			t.Errorf("Unfold of Fold(%d): %d", n, got)
		}
		if got := pack.PutInt(nil, n); !bytes.Equal(got, pack.Put(nil, pack.Fold(n))) {
			t.Errorf("PutInt(%d): %v", n, got)
		}
	}
	for _, n := range numbers() {
		if got := pack.Fold(pack.Unfold(n)); got != n {
			t.Errorf("Fold of Unfold(%d): %d", n, got)
		}
	}
}

// P4.1
func TestPutText(t *testing.T) {
	for _, s := range []string{"", "a", "floors 2\n", "\x00\xff\x80", strings.Repeat("x", 127), strings.Repeat("x", 128), strings.Repeat("xy", 1<<15)} {
		want := append(pack.Put(nil, uint64(len(s))), s...)
		if b := pack.PutText(nil, s); !bytes.Equal(b, want) {
			t.Errorf("PutText of %d bytes: %d bytes", len(s), len(b))
		}
	}
}

// P4.1
func TestSize(t *testing.T) {
	for _, n := range numbers() {
		if got := pack.Size(n); got != len(pack.Put(nil, n)) {
			t.Errorf("Size(%d): %d", n, got)
		}
	}
	if pack.Size(0) != 1 || pack.Size(127) != 1 || pack.Size(128) != 2 || pack.Size(math.MaxUint64) != 10 {
		t.Error("Size at the ends")
	}
}

// P4.2: what was written is read, and how many bytes are left is told.
func TestReader(t *testing.T) {
	var b []byte
	for _, n := range numbers() {
		b = pack.Put(b, n)
	}
	for _, n := range signed() {
		b = pack.PutInt(b, n)
	}
	b = pack.PutText(pack.PutText(b, "up\x00\xff"), "")
	b = pack.Put(pack.Put(b, 0), math.MaxInt64)
	as := slices.Clone(b)
	r := pack.Make(b)
	left := len(b)
	check := func(what string, right bool, size int) {
		t.Helper()
		left -= size
		if !right || r.Left() != left || r.Bad() {
			t.Fatalf("%s: right %v, left %d (of %d), bad %v", what, right, r.Left(), left, r.Bad())
		}
	}
	check("none read", true, 0)
	for _, n := range numbers() {
		check("Num", r.Num() == n, pack.Size(n))
	}
	for _, n := range signed() {
		check("Int", r.Int() == n, pack.Size(pack.Fold(n)))
	}
	check("Text", r.Text() == "up\x00\xff", 5)
	check("Text of none", r.Text() == "", 1)
	check("Small of 0", r.Small(0) == 0, 1)
	check("Small of the greatest", r.Small(math.MaxInt) == math.MaxInt, 9)
	if left != 0 || !bytes.Equal(b, as) {
		t.Error(left, "left, or other bytes")
	}
}

// wrong: bytes that begin with no number.
func wrong() [][]byte {
	full := bytes.Repeat([]byte{255}, 9)
	nought := bytes.Repeat([]byte{128}, 9)
	return [][]byte{
		nil, {}, {128}, {255}, {128, 128}, full,
		{128, 0}, {255, 0}, {129, 128, 0}, {172, 2 + 128, 0}, append(slices.Clone(full[:8]), 127+128, 0),
		append(slices.Clone(full), 2), append(slices.Clone(nought), 2), append(slices.Clone(nought), 64), append(slices.Clone(full), 127),
		append(slices.Clone(full), 129, 0), append(slices.Clone(full), 129, 1), append(slices.Clone(nought), 128, 1), append(slices.Clone(nought), 128, 0),
		bytes.Repeat([]byte{128}, 1000), append(bytes.Repeat([]byte{128}, 100), 1),
	}
}

// calls: one of each kind, and whether its answer is that of nothing.
func calls() map[string]func(*pack.Reader) bool {
	return map[string]func(*pack.Reader) bool{
		"Num":   func(r *pack.Reader) bool { return r.Num() == 0 },
		"Int":   func(r *pack.Reader) bool { return r.Int() == 0 },
		"Small": func(r *pack.Reader) bool { return r.Small(math.MaxInt) == 0 },
		"Text":  func(r *pack.Reader) bool { return r.Text() == "" },
	}
}

// allBad: is there nothing any more, whatever is called?
func allBad(t *testing.T, what string, r *pack.Reader) {
	t.Helper()
	for name, call := range calls() {
		if !r.Bad() || r.Left() != 0 || !call(r) {
			t.Errorf("%s, then %s: bad %v, left %d", what, name, r.Bad(), r.Left())
		}
	}
	if !r.Bad() || r.Left() != 0 {
		t.Errorf("%s, then all calls: bad %v, left %d", what, r.Bad(), r.Left())
	}
}

// P4.2
func TestReaderOfWrong(t *testing.T) {
	for _, b := range wrong() {
		for name, call := range calls() {
			r := pack.Make(b)
			if r.Bad() || r.Left() != len(b) {
				t.Errorf("of %v ahead of %s: bad %v, left %d", b, name, r.Bad(), r.Left())
			}
			if !call(r) {
				t.Errorf("%s of %v: something", name, b)
			}
			allBad(t, name, r)
			r = pack.Make(append([]byte{7}, b...))
			if r.Num() != 7 || r.Bad() {
				t.Errorf("%v: the 7 ahead", b)
			}
			if !call(r) {
				t.Errorf("%s of %v behind 7: something", name, b)
			}
			allBad(t, name, r)
		}
	}
}

// P4.2: a number that is there, but not as was asked, is none either, with all behind it.
func TestReaderOfUnasked(t *testing.T) {
	for _, c := range []struct {
		n    uint64
		most int
	}{{1, 0}, {128, 127}, {0, -1}, {5, -1}, {0, math.MinInt}, {5, math.MinInt}, {1 << 63, math.MaxInt}, {math.MaxUint64, math.MaxInt}, {math.MaxUint64, -1}, {1 << 32, 1<<32 - 1}} {
		r := pack.Make(pack.Put(pack.Put(nil, c.n), 1))
		if n := r.Small(c.most); n != 0 {
			t.Errorf("Small(%d) of %d: %d", c.most, c.n, n)
		}
		allBad(t, "Small", r)
	}
	for _, b := range [][]byte{{1}, {3, 'a', 'b'}, {255, 255, 255, 255, 255, 255, 255, 255, 255, 1, 'a'}, {128, 128, 128, 128, 128, 128, 128, 128, 128, 1}, {255, 255, 255, 255, 255, 255, 255, 255, 127, 'a'}} {
		r := pack.Make(b)
		if s := r.Text(); s != "" {
			t.Errorf("Text of %v: %q", b, s)
		}
		allBad(t, "Text", r)
	}
}

// P4.2: two Readers of the same bytes don't hinder each other.
func TestReadersApart(t *testing.T) {
	b := []byte{1, 2, 1, 'a'}
	one, other := pack.Make(b), pack.Make(b)
	if one.Num() != 1 || other.Num() != 1 || one.Num() != 2 || one.Text() != "a" || one.Num() != 0 || !one.Bad() || other.Bad() || other.Left() != 3 || other.Num() != 2 {
		t.Error("not apart")
	}
}

// P4.2
func TestRead(t *testing.T) {
	for _, n := range numbers() {
		b := pack.Put(nil, n)
		if got, e := pack.Read(b); got != n || e != api.OK {
			t.Errorf("Read(%v): %d, %d", b, got, int(e))
		}
		for _, behind := range []byte{0, 1, 128} {
			if got, e := pack.Read(append(slices.Clone(b), behind)); got != 0 || e != api.ErrForm {
				t.Errorf("Read(%v) with %d behind: %d, %d", b, behind, got, int(e))
			}
		}
	}
	for _, b := range wrong() {
		if got, e := pack.Read(b); got != 0 || e != api.ErrForm {
			t.Errorf("Read(%v): %d, %d", b, got, int(e))
		}
	}
}

// P4.2: of all short bytes just those are a number that Put makes.
func TestReadOfAll(t *testing.T) {
	for a := range 256 {
		for b := range 256 {
			for _, l := range [][]byte{{byte(a)}, {byte(a), byte(b)}, {byte(a), 255, byte(b)}} {
				n, e := pack.Read(l)
				if is := bytes.Equal(pack.Put(nil, n), l); is != (e == api.OK) || !is && (n != 0 || e != api.ErrForm) {
					t.Fatalf("Read(%v): %d, %d", l, n, int(e))
				}
				r := pack.Make(append(slices.Clone(l), 0))
				if m := r.Num(); e == api.OK && (m != n || r.Bad() || r.Left() != 1) {
					t.Fatalf("Num of %v: %d", l, m)
				}
			}
		}
	}
}
