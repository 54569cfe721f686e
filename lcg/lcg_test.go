package lcg_test

import (
	"math"
	"math/big"
	"slices"
	"testing"

	"hoistway/lcg"
)

func states() []uint64 {
	l := []uint64{0, 1, 2, 42, 1 << 18, 1<<27 - 1, 1 << 31, 1 << 32, 1<<45 + 1, 1 << 58, 1<<59 - 1, 1 << 59, 31 << 59, 1 << 63, math.MaxUint64 - 1, math.MaxUint64, lcg.Mul, lcg.Add, 0x0123456789abcdef}
	for i := range uint64(32) {
		l = append(l, i<<59+0x0badcafe12345678>>4)
	}
	return l
}

// wide: a number without bounds.
func wide(n uint64) *big.Int { return new(big.Int).SetUint64(n) }

// modulo: a number modulo 2 with so many times itself.
func modulo(n *big.Int, bits uint) *big.Int {
	return n.Mod(n, new(big.Int).Lsh(big.NewInt(1), bits))
}

// P10.1
func TestStep(t *testing.T) {
	if lcg.Mul != uint64(6364136223846793005) || lcg.Add != uint64(1442695040888963407) {
		t.Error("the numbers")
	}
	if lcg.Step(0) != 1442695040888963407 || lcg.Step(1) != 7806831264735756412 {
		t.Error(lcg.Step(0), lcg.Step(1))
	}
	for _, s := range states() {
		want := new(big.Int).Mul(wide(s), wide(6364136223846793005))
		want = modulo(want.Add(want, wide(1442695040888963407)), 64)
		if got := lcg.Step(s); got != want.Uint64() {
			t.Errorf("Step(%d): %d; want %d", s, got, want)
		}
	}
}

// word: the document's words for Word, one by one, in numbers without bounds.
func word(s uint64) uint32 {
	x := new(big.Int).Div(wide(s), wide(1<<18))
	x.Xor(x, wide(s))
	x.Div(x, wide(1<<27))
	modulo(x, 32)
	turned := uint32(x.Uint64())
	for range s / (1 << 59) {
		last := turned % 2
		turned = turned/2 + last*(1<<31)
	}
	return turned
}

// P10.1
func TestWord(t *testing.T) {
	for _, s := range states() {
		if got := lcg.Word(s); got != word(s) {
			t.Errorf("Word(%d): %d; want %d", s, got, word(s))
		}
	}
	// s over 2^18 has no bit from 2^46 on: x is s over 2^27 there.
	for _, c := range []struct {
		s    uint64
		want uint32
	}{{0, 0}, {1 << 27, 1}, {1<<27 - 1, 0}, {1 << 45, 1<<18 + 1}, {1 << 58, 1<<31 + 1<<13}, {1<<59 + 1<<27, 1<<31 + 1<<13}, {31<<59 + 1<<27, 31<<14*2 + 2}} {
		if got := lcg.Word(c.s); got != c.want {
			t.Errorf("Word(%d): %d; want %d", c.s, got, c.want)
		}
	}
}

// P10.1
func TestMake(t *testing.T) {
	for _, seed := range states() {
		for _, n := range []int{0, 1, 2, 3, 50} {
			var want []uint32
			s := seed
			for range n {
				s = lcg.Step(s)
				want = append(want, lcg.Word(s))
			}
			if got := lcg.Make(seed, n); !slices.Equal(got, want) {
				t.Errorf("Make(%d, %d): %v; want %v", seed, n, got, want)
			}
		}
		for _, n := range []int{-1, -5, math.MinInt} {
			if got := lcg.Make(seed, n); len(got) != 0 {
				t.Errorf("Make(%d, %d): %v", seed, n, got)
			}
		}
	}
}

// P10.1: at most 2^20.
func TestMakeMost(t *testing.T) {
	all := lcg.Make(3, 1<<20)
	if len(all) != 1<<20 || all[1<<20-1] != lcg.Word(lcg.Jump(3, 1<<20)) {
		t.Error(len(all))
	}
	for _, n := range []int{1<<20 + 1, 1 << 40, math.MaxInt} {
		if got := lcg.Make(3, n); !slices.Equal(got, all) {
			t.Errorf("Make(3, %d): %d words", n, len(got))
		}
	}
	if got := lcg.Make(3, 1<<20-1); !slices.Equal(got, all[:1<<20-1]) {
		t.Error("one less", len(got))
	}
}

// P10.2
func TestJump(t *testing.T) {
	for _, seed := range states() {
		s := seed
		for n := range uint64(300) {
			if got := lcg.Jump(seed, n); got != s {
				t.Fatalf("Jump(%d, %d): %d; want %d", seed, n, got, s)
			}
			s = lcg.Step(s)
		}
		for _, n := range states() {
			for _, m := range []uint64{0, 1, 1 << 20, 1 << 63, math.MaxUint64} {
				// All 2^64 states round, n and m steps are as many as their sum, which goes round.
				if lcg.Jump(lcg.Jump(seed, n), m) != lcg.Jump(seed, n+m) {
					t.Errorf("Jump(%d, %d), %d on", seed, n, m)
				}
			}
		}
	}
}

// P10.2
func TestBack(t *testing.T) {
	for _, s := range states() {
		if lcg.Step(lcg.Back(s)) != s || lcg.Back(lcg.Step(s)) != s {
			t.Errorf("Back(%d): %d", s, lcg.Back(s))
		}
	}
	if lcg.Back(lcg.Add) != 0 {
		t.Error(lcg.Back(lcg.Add))
	}
}
