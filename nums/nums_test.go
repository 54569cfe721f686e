package nums_test

import (
	"math"
	"math/big"
	"testing"

	"hoistway/api"
	"hoistway/nums"
)

const (
	least    = math.MinInt64
	greatest = math.MaxInt64
)

// edges: where signs, words and halves of words begin and end, and some between.
func edges() []int64 {
	l := []int64{0, 1, 2, 3, 5, 7, 10, 12, 18, 63, 64, 100, 127, 128, 1e9, 1e18, 3037000499, 3037000500, 4294967295, 4294967296}
	for _, n := range []int64{1 << 31, 1 << 32, 1 << 53, 1 << 61, 1 << 62, greatest} {
		l = append(l, n-1, n)
	}
	for _, n := range l[1:] {
		l = append(l, -n)
	}
	return append(l, least, least+1, least/2-1, greatest/2+1)
}

// want: a number as a call answers it, if there is such a one.
func want(b *big.Int) (int64, api.Errno) {
	if !b.IsInt64() {
		return 0, api.ErrRange
	}
	return b.Int64(), api.OK
}

// quotient: a over b, rounded down, and what is left, which has the sign of b.
func quotient(a, b *big.Int) (*big.Int, *big.Int) {
	q, r := new(big.Int).QuoRem(a, b, new(big.Int))
	if r.Sign() != 0 && r.Sign() != b.Sign() {
		q.Sub(q, big.NewInt(1))
		r.Add(r, b)
	}
	return q, r
}

type answer struct {
	n int64
	e api.Errno
}

func check(t *testing.T, call string, args []int64, n int64, e api.Errno, wn int64, we api.Errno) {
	t.Helper()
	if n != wn || e != we {
		t.Errorf("%s%v: %d, %d; want %d, %d", call, args, n, int(e), wn, int(we))
	}
}

// P1.1
func TestAddSubMul(t *testing.T) {
	for _, a := range edges() {
		for _, b := range edges() {
			x, y := big.NewInt(a), big.NewInt(b)
			args := []int64{a, b}
			n, e := nums.Add(a, b)
			wn, we := want(new(big.Int).Add(x, y))
			check(t, "Add", args, n, e, wn, we)
			n, e = nums.Sub(a, b)
			wn, we = want(new(big.Int).Sub(x, y))
			check(t, "Sub", args, n, e, wn, we)
			n, e = nums.Mul(a, b)
			wn, we = want(new(big.Int).Mul(x, y))
			check(t, "Mul", args, n, e, wn, we)
		}
	}
}

// P1.1
func TestSumsAtTheEnds(t *testing.T) {
	for _, c := range []struct {
		name string
		call func(a, b int64) (int64, api.Errno)
		a, b int64
		want answer
	}{
		{"Add", nums.Add, 2, 3, answer{5, api.OK}},
		{"Add", nums.Add, greatest, 0, answer{greatest, api.OK}},
		{"Add", nums.Add, greatest, 1, answer{0, api.ErrRange}},
		{"Add", nums.Add, greatest - 1, 1, answer{greatest, api.OK}},
		{"Add", nums.Add, least, -1, answer{0, api.ErrRange}},
		{"Add", nums.Add, least + 1, -1, answer{least, api.OK}},
		{"Add", nums.Add, least, least, answer{0, api.ErrRange}},
		{"Add", nums.Add, least, greatest, answer{-1, api.OK}},
		{"Sub", nums.Sub, 2, 3, answer{-1, api.OK}},
		{"Sub", nums.Sub, 0, least, answer{0, api.ErrRange}},
		{"Sub", nums.Sub, -1, least, answer{greatest, api.OK}},
		{"Sub", nums.Sub, -2, greatest, answer{0, api.ErrRange}},
		{"Sub", nums.Sub, -1, greatest, answer{least, api.OK}},
		{"Sub", nums.Sub, least, least, answer{0, api.OK}},
		{"Mul", nums.Mul, 6, -7, answer{-42, api.OK}},
		{"Mul", nums.Mul, least, 1, answer{least, api.OK}},
		{"Mul", nums.Mul, least, -1, answer{0, api.ErrRange}},
		{"Mul", nums.Mul, -1, least, answer{0, api.ErrRange}},
		{"Mul", nums.Mul, least, 0, answer{0, api.OK}},
		{"Mul", nums.Mul, 1 << 62, -2, answer{least, api.OK}},
		{"Mul", nums.Mul, 1 << 62, 2, answer{0, api.ErrRange}},
		{"Mul", nums.Mul, 1 << 32, 1 << 32, answer{0, api.ErrRange}},
		{"Mul", nums.Mul, least, least, answer{0, api.ErrRange}},
	} {
		n, e := c.call(c.a, c.b)
		check(t, c.name, []int64{c.a, c.b}, n, e, c.want.n, c.want.e)
	}
}

// P1.1
func TestSize(t *testing.T) {
	for _, a := range edges() {
		if n := nums.Size(a); n != new(big.Int).Abs(big.NewInt(a)).Uint64() {
			t.Errorf("Size(%d): %d", a, n)
		}
	}
	if nums.Size(least) != 1<<63 || nums.Size(greatest) != 1<<63-1 || nums.Size(-3) != 3 || nums.Size(0) != 0 {
		t.Error("Size at the ends")
	}
}

// P1.2
func TestDivCeilMod(t *testing.T) {
	for _, a := range edges() {
		for _, b := range edges() {
			if b == 0 {
				continue
			}
			args := []int64{a, b}
			q, r := quotient(big.NewInt(a), big.NewInt(b))
			n, e := nums.Div(a, b)
			wn, we := want(q)
			check(t, "Div", args, n, e, wn, we)
			n, e = nums.Mod(a, b)
			check(t, "Mod", args, n, e, r.Int64(), api.OK)
			if r.Sign() != 0 {
				q.Add(q, big.NewInt(1))
			}
			n, e = nums.Ceil(a, b)
			wn, we = want(q)
			check(t, "Ceil", args, n, e, wn, we)
		}
	}
}

// P1.2
func TestQuotientsBySigns(t *testing.T) {
	for _, c := range []struct{ a, b, div, ceil, mod int64 }{
		{7, 2, 3, 4, 1},
		{-7, 2, -4, -3, 1},
		{7, -2, -4, -3, -1},
		{-7, -2, 3, 4, -1},
		{6, 2, 3, 3, 0},
		{-6, 2, -3, -3, 0},
		{1, 2, 0, 1, 1},
		{-1, 2, -1, 0, 1},
		{0, -5, 0, 0, 0},
		{least, 1, least, least, 0},
		{least, greatest, -2, -1, greatest - 1},
		{least, least, 1, 1, 0},
		{greatest, least, -1, 0, -1},
		{greatest, -1, -greatest, -greatest, 0},
	} {
		args := []int64{c.a, c.b}
		n, e := nums.Div(c.a, c.b)
		check(t, "Div", args, n, e, c.div, api.OK)
		n, e = nums.Ceil(c.a, c.b)
		check(t, "Ceil", args, n, e, c.ceil, api.OK)
		n, e = nums.Mod(c.a, c.b)
		check(t, "Mod", args, n, e, c.mod, api.OK)
	}
}

// P1.2: by nothing there is no quotient, and of the least number by -1 none of 64 bits, but nothing is left.
func TestNoQuotient(t *testing.T) {
	for _, a := range edges() {
		args := []int64{a, 0}
		n, e := nums.Div(a, 0)
		check(t, "Div", args, n, e, 0, api.ErrZero)
		n, e = nums.Ceil(a, 0)
		check(t, "Ceil", args, n, e, 0, api.ErrZero)
		n, e = nums.Mod(a, 0)
		check(t, "Mod", args, n, e, 0, api.ErrZero)
	}
	args := []int64{least, -1}
	n, e := nums.Div(least, -1)
	check(t, "Div", args, n, e, 0, api.ErrRange)
	n, e = nums.Ceil(least, -1)
	check(t, "Ceil", args, n, e, 0, api.ErrRange)
	n, e = nums.Mod(least, -1)
	check(t, "Mod", args, n, e, 0, api.OK)
}

// P1.3
func TestMulDiv(t *testing.T) {
	for _, a := range edges() {
		for _, b := range edges() {
			for _, c := range edges() {
				n, e := nums.MulDiv(a, b, c)
				var wn int64
				var we api.Errno
				switch {
				case a < 0 || b < 0 || c < 0:
					we = api.ErrArg
				case c == 0:
					we = api.ErrZero
				default:
					q := new(big.Int).Mul(big.NewInt(a), big.NewInt(b))
					wn, we = want(q.Quo(q, big.NewInt(c)))
				}
				check(t, "MulDiv", []int64{a, b, c}, n, e, wn, we)
			}
		}
	}
}

// P1.3
func TestMulDivAtTheEnds(t *testing.T) {
	for _, c := range []struct {
		a, b, c int64
		want    answer
	}{
		{7, 3, 2, answer{10, api.OK}},
		{greatest, greatest, greatest, answer{greatest, api.OK}},
		{greatest, greatest, greatest - 1, answer{0, api.ErrRange}},
		{1 << 62, 6, 3, answer{0, api.ErrRange}},
		{1 << 62, 2, 1, answer{0, api.ErrRange}},
		{greatest, 1, 1, answer{greatest, api.OK}},
		{0, 0, 1, answer{0, api.OK}},
		{0, 5, 0, answer{0, api.ErrZero}},
		{-1, 5, 0, answer{0, api.ErrArg}},
		{5, -1, 0, answer{0, api.ErrArg}},
		{0, 0, -1, answer{0, api.ErrArg}},
		{least, greatest, 1, answer{0, api.ErrArg}},
		{greatest, greatest, 0, answer{0, api.ErrZero}},
	} {
		n, e := nums.MulDiv(c.a, c.b, c.c)
		check(t, "MulDiv", []int64{c.a, c.b, c.c}, n, e, c.want.n, c.want.e)
	}
}

// P1.3
func TestGcd(t *testing.T) {
	for _, a := range edges() {
		for _, b := range edges() {
			x, y := new(big.Int).Abs(big.NewInt(a)), new(big.Int).Abs(big.NewInt(b))
			if n := nums.Gcd(a, b); n != new(big.Int).GCD(nil, nil, x, y).Uint64() {
				t.Errorf("Gcd(%d, %d): %d", a, b, n)
			}
		}
	}
	for _, c := range []struct {
		a, b int64
		want uint64
	}{{0, 0, 0}, {-12, 18, 6}, {0, -7, 7}, {7, 0, 7}, {least, 0, 1 << 63}, {least, least, 1 << 63}, {least, 6, 2}, {13, 8, 1}} {
		if n := nums.Gcd(c.a, c.b); n != c.want {
			t.Errorf("Gcd(%d, %d): %d; want %d", c.a, c.b, n, c.want)
		}
	}
}

// P1.3
func TestPow(t *testing.T) {
	for _, a := range edges() {
		for n := range 70 {
			p, e := nums.Pow(a, n)
			wn, we := want(new(big.Int).Exp(big.NewInt(a), big.NewInt(int64(n)), nil))
			check(t, "Pow", []int64{a, int64(n)}, p, e, wn, we)
		}
	}
}

// P1.3: it ends, however often, and what is below 0 times is named first.
func TestPowAtTheEnds(t *testing.T) {
	for _, c := range []struct {
		a    int64
		n    int
		want answer
	}{
		{2, 62, answer{1 << 62, api.OK}},
		{2, 63, answer{0, api.ErrRange}},
		{-2, 63, answer{least, api.OK}},
		{-2, 64, answer{0, api.ErrRange}},
		{10, 18, answer{1e18, api.OK}},
		{10, 19, answer{0, api.ErrRange}},
		{0, 0, answer{1, api.OK}},
		{least, 0, answer{1, api.OK}},
		{least, 1, answer{least, api.OK}},
		{least, 2, answer{0, api.ErrRange}},
		{0, math.MaxInt, answer{0, api.OK}},
		{1, math.MaxInt, answer{1, api.OK}},
		{-1, math.MaxInt, answer{-1, api.OK}},
		{-1, math.MaxInt - 1, answer{1, api.OK}},
		{2, math.MaxInt, answer{0, api.ErrRange}},
		{greatest, math.MaxInt, answer{0, api.ErrRange}},
		{2, -1, answer{0, api.ErrArg}},
		{0, -1, answer{0, api.ErrArg}},
		{least, math.MinInt, answer{0, api.ErrArg}},
	} {
		n, e := nums.Pow(c.a, c.n)
		check(t, "Pow", []int64{c.a, int64(c.n)}, n, e, c.want.n, c.want.e)
	}
}

// P2: what is answered hangs on the arguments alone, whatever was asked ahead of it.
func TestSameAgain(t *testing.T) {
	all := func() []answer {
		var l []answer
		for _, a := range edges() {
			for _, b := range edges() {
				for _, call := range []func(a, b int64) (int64, api.Errno){nums.Add, nums.Sub, nums.Mul, nums.Div, nums.Ceil, nums.Mod} {
					n, e := call(a, b)
					l = append(l, answer{n, e})
				}
			}
		}
		return l
	}
	first := all()
	for i, x := range all() {
		if x != first[i] {
			t.Fatalf("answer %d: first %v, then %v", i, first[i], x)
		}
	}
}
