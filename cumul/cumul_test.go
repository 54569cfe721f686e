package cumul_test

import (
	"math"
	"math/big"
	"slices"
	"testing"

	"hoistway/api"
	"hoistway/cumul"
)

// wrongRates: of these there is no table.
func wrongRates() []int {
	return []int{-1, -2, -1000, 4001, 4002, 5000, 1 << 32, 1<<32 + 1, math.MinInt, math.MinInt + 1, math.MaxInt}
}

// weights: by the document's words, in numbers of any size.
func weights(rate int) []*big.Int {
	weight := big.NewInt(1 << 26)
	var l []*big.Int
	for k := int64(1); weight.Sign() > 0 && len(l) < 64; k++ {
		l = append(l, weight)
		weight = new(big.Int).Mul(weight, big.NewInt(int64(rate)))
		weight.Quo(weight, big.NewInt(1000*k))
	}
	return l
}

// P11.1
func TestConstants(t *testing.T) {
	if cumul.First != 67108864 || cumul.Whole != 4294967296 {
		t.Error(cumul.First, cumul.Whole)
	}
}

// P11.1: written out.
func TestWeights(t *testing.T) {
	for _, c := range []struct {
		rate int
		want []uint64
	}{
		{0, []uint64{1 << 26}},
		{1, []uint64{1 << 26, 67108, 33}},
		{2, []uint64{1 << 26, 134217, 134}},
		{100, []uint64{67108864, 6710886, 335544, 11184, 279, 5}},
		{1000, []uint64{67108864, 67108864, 33554432, 11184810, 2796202, 559240, 93206, 13315, 1664, 184, 18, 1}},
		{2000, []uint64{67108864, 134217728, 134217728, 89478485, 44739242, 17895696, 5965232, 1704352, 426088, 94686, 18937, 3443, 573, 88, 12, 1}},
	} {
		if l, e := cumul.Weights(c.rate); e != api.OK || !slices.Equal(l, c.want) {
			t.Errorf("Weights(%d): %v, %d; want %v", c.rate, l, int(e), c.want)
		}
	}
}

// P11.1: of each rate that there may be.
func TestAllRates(t *testing.T) {
	for rate := range 4001 {
		want := weights(rate)
		l, e := cumul.Weights(rate)
		table, te := cumul.Table(rate)
		if e != api.OK || te != api.OK || len(l) != len(want) || len(table) != len(want) {
			t.Fatalf("of %d: %v, %d, %v, %d; want %v", rate, l, int(e), table, int(te), want)
		}
		sum := new(big.Int)
		for _, weight := range want {
			sum.Add(sum, weight)
		}
		upTo := new(big.Int)
		for i, weight := range want {
			if weight.Cmp(new(big.Int).SetUint64(l[i])) != 0 {
				t.Fatalf("Weights(%d): %v; want %v", rate, l, want)
			}
			upTo.Add(upTo, weight)
			part := new(big.Int).Lsh(upTo, 32)
			part.Quo(part, sum)
			if part.Cmp(new(big.Int).SetUint64(table[i])) != 0 {
				t.Fatalf("Table(%d): %d at %d; want %v", rate, table[i], i, part)
			}
		}
	}
}

// P11.1: written out.
func TestTable(t *testing.T) {
	for _, c := range []struct {
		rate int
		want []uint64
	}{
		{0, []uint64{4294967296}},
		{1, []uint64{4290674566, 4294965186, 4294967296}},
		{2, []uint64{4286386011, 4294958737, 4294967296}},
		{100, []uint64{3886247267, 4274871970, 4294303188, 4294950849, 4294967006, 4294967296}},
		{1000, []uint64{1580030216, 3160060433, 3950075541, 4213413895, 4279248472, 4292415378, 4294609846, 4294923338, 4294962516, 4294966848, 4294967272, 4294967296}},
		{4000, []uint64{
			78665070, 393325351, 1022645914, 1861739997, 2700834080, 3372109345, 3819626189, 4075350099, 4203212054, 4260039589, 4282770603,
			4291036425, 4293791699, 4294639474, 4294881696, 4294946287, 4294962434, 4294966233, 4294967077, 4294967254, 4294967290, 4294967296,
		}},
	} {
		if l, e := cumul.Table(c.rate); e != api.OK || !slices.Equal(l, c.want) {
			t.Errorf("Table(%d): %v, %d; want %v", c.rate, l, int(e), c.want)
		}
	}
}

// P11.1
func TestWrongRates(t *testing.T) {
	for _, rate := range wrongRates() {
		if l, e := cumul.Weights(rate); len(l) != 0 || e != api.ErrArg {
			t.Errorf("Weights(%d): %v, %d", rate, l, int(e))
		}
		if l, e := cumul.Table(rate); len(l) != 0 || e != api.ErrArg {
			t.Errorf("Table(%d): %v, %d", rate, l, int(e))
		}
	}
	for _, rate := range []int{0, 4000} {
		if l, e := cumul.Weights(rate); len(l) == 0 || e != api.OK {
			t.Errorf("Weights(%d): %v, %d", rate, l, int(e))
		}
		if l, e := cumul.Table(rate); len(l) == 0 || e != api.OK {
			t.Errorf("Table(%d): %v, %d", rate, l, int(e))
		}
	}
}

// P11.2
func TestRight(t *testing.T) {
	const whole = 1 << 32
	for _, l := range [][]uint64{{whole}, {0, whole}, {1, whole}, {whole, whole}, {0, 0, whole}, {5, 5, 7, whole}, {whole - 1, whole}, {0, whole, whole, whole}} {
		if !cumul.Right(l) {
			t.Errorf("Right(%v): false", l)
		}
	}
	for _, l := range [][]uint64{
		nil, {}, {0}, {1}, {whole - 1}, {whole + 1}, {math.MaxUint64}, {whole, whole - 1}, {whole, 0}, {2, 1, whole}, {whole + 1, whole}, {math.MaxUint64, whole}, {0, whole + 1}, {0, whole, whole + 1},
		{5, 7, 6, whole}, {5, 4, 7, whole}, {1, 2, whole, 3, whole},
	} {
		if cumul.Right(l) {
			t.Errorf("Right(%v): true", l)
		}
	}
}

// P11.3
func TestTablesAreRight(t *testing.T) {
	for rate := range 4001 {
		if l, _ := cumul.Table(rate); !cumul.Right(l) {
			t.Errorf("Table(%d): %v", rate, l)
		}
	}
}

// P11.2
func TestShare(t *testing.T) {
	l := []uint64{10, 10, 25, 7, math.MaxUint64, 0}
	for n, want := range []uint64{10, 0, 15, math.MaxUint64 - 17, math.MaxUint64 - 7, 1} {
		if got := cumul.Share(l, n); got != want {
			t.Errorf("Share(%d): %d; want %d", n, got, want)
		}
	}
	for _, n := range []int{-1, -2, 6, 7, math.MinInt, math.MaxInt} {
		if got := cumul.Share(l, n); got != 0 {
			t.Errorf("Share(%d): %d", n, got)
		}
	}
	for _, n := range []int{-1, 0, 1, math.MinInt, math.MaxInt} {
		if got := cumul.Share(nil, n); got != 0 {
			t.Errorf("Share of none (%d): %d", n, got)
		}
	}
	if got := cumul.Share([]uint64{math.MaxUint64}, 0); got != math.MaxUint64 {
		t.Error(got)
	}
}

// P11.2
func TestMean(t *testing.T) {
	for _, c := range []struct {
		l    []uint64
		want uint64
	}{
		{nil, 0}, {[]uint64{}, 0}, {[]uint64{1 << 32}, 0}, {[]uint64{0, 1 << 32}, 1 << 32}, {[]uint64{1 << 31, 1 << 32}, 1 << 31}, {[]uint64{1, 3, 6, 10}, 2 + 6 + 12}, {[]uint64{5, 5, 5}, 0},
		{[]uint64{0, 0, 0, 7}, 21}, {[]uint64{5, 4}, math.MaxUint64}, {[]uint64{0, 0, math.MaxUint64}, math.MaxUint64 - 1}, {[]uint64{math.MaxUint64, 0, 0}, 1}, {[]uint64{0, 0, 1 << 63}, 0}, {[]uint64{0, 0, 1 << 63, 1<<63 + 1}, 3},
	} {
		if got := cumul.Mean(c.l); got != c.want {
			t.Errorf("Mean(%v): %d; want %d", c.l, got, c.want)
		}
	}
}

// P11.2: the mean of a table is near its rate: so many come in 1000 ticks.
func TestMeanOfTables(t *testing.T) {
	for rate := range 4001 {
		l, _ := cumul.Table(rate)
		mean, sum := cumul.Mean(l), uint64(0)
		for n := range l {
			sum += uint64(n) * cumul.Share(l, n)
		}
		far := math.Abs(float64(mean)/(1<<32) - float64(rate)/1000)
		if mean != sum || far > 1e-5 {
			t.Fatalf("Mean of %d: %d (%g off)", rate, mean, far)
		}
	}
}

// Rule 5: what is answered is new, what is handed in stays.
func TestNew(t *testing.T) {
	a, _ := cumul.Table(1000)
	as := slices.Clone(a)
	w, _ := cumul.Weights(1000)
	for i := range w {
		w[i] = 0
	}
	cumul.Right(a)
	cumul.Share(a, 3)
	cumul.Mean(a)
	if !slices.Equal(a, as) {
		t.Error(a)
	}
	for i := range a {
		a[i] = 0
	}
	if b, _ := cumul.Table(1000); !slices.Equal(b, as) {
		t.Error(b)
	}
}
