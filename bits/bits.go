// Package bits is layer 3: see shared/doc/03-bits.md.
package bits

import (
	"iter"
	"math/bits"

	"hoistway/api"
)

const Most = 128

// wordBits is how many numbers a word of a set tells of.
const wordBits = 64

// fits: may a number be in a set?
func fits(n int) bool { return 0 <= n && n < Most }

// bit: a number's word in a set, and its bit there (of numbers that fit).
func bit(n int) (int, uint64) { return n / wordBits, 1 << (n % wordBits) }

// Has: is a number in a set?
func Has(s api.Set, n int) bool {
	if !fits(n) {
		return false
	}
	word, b := bit(n)
	return s[word]&b != 0
}

// With: a set, and a number (one that may be).
func With(s api.Set, n int) api.Set {
	if fits(n) {
		word, b := bit(n)
		s[word] |= b
	}
	return s
}

// Without: a set without a number.
func Without(s api.Set, n int) api.Set {
	if fits(n) {
		word, b := bit(n)
		s[word] &^= b
	}
	return s
}

// Of: the set of numbers.
func Of(l ...int) api.Set {
	var s api.Set
	for _, n := range l {
		s = With(s, n)
	}
	return s
}

// And: what is in both.
func And(a, b api.Set) api.Set { return api.Set{a[0] & b[0], a[1] & b[1]} }

// Or: what is in one.
func Or(a, b api.Set) api.Set { return api.Set{a[0] | b[0], a[1] | b[1]} }

// Sub: what is in the first one alone.
func Sub(a, b api.Set) api.Set { return api.Set{a[0] &^ b[0], a[1] &^ b[1]} }

// Count: how many there are.
func Count(s api.Set) int { return bits.OnesCount64(s[0]) + bits.OnesCount64(s[1]) }

// lowest: the set of all numbers below a number.
func lowest(n int) api.Set {
	n = max(0, min(n, Most))
	low := min(n, wordBits)
	// A shift by all 64 bits leaves 0, and 0 less 1 is all bits.
	return api.Set{1<<low - 1, 1<<(n-low) - 1}
}

// Below: what is below a number.
func Below(s api.Set, n int) api.Set { return And(s, lowest(n)) }

// From: what is not below a number.
func From(s api.Set, n int) api.Set { return Sub(s, lowest(n)) }

// Range: the numbers from one on, ahead of another one.
func Range(from, to int) api.Set { return From(lowest(to), from) }

// Next: the least that is not below a number; false: there is none.
func Next(s api.Set, n int) (int, bool) {
	s = From(s, n)
	switch {
	case s[0] != 0:
		return bits.TrailingZeros64(s[0]), true
	case s[1] != 0:
		return wordBits + bits.TrailingZeros64(s[1]), true
	}
	return 0, false
}

// Prev: the greatest that is not above a number; false: there is none.
func Prev(s api.Set, n int) (int, bool) {
	// Cut first: behind the greatest int there is no next one to be below of.
	s = Below(s, min(n, Most)+1)
	switch {
	case s[1] != 0:
		return wordBits + bits.Len64(s[1]) - 1, true
	case s[0] != 0:
		return bits.Len64(s[0]) - 1, true
	}
	return 0, false
}

// Shift: all, so much greater (below 0: less); what may not be is gone.
func Shift(s api.Set, k int) api.Set {
	k = max(-Most, min(k, Most))
	if k < 0 {
		return down(s, -k)
	}
	return up(s, k)
}

// up: all greater by 0 to Most.
func up(s api.Set, k int) api.Set {
	if k >= wordBits {
		return api.Set{0, s[0] << (k - wordBits)}
	}
	return api.Set{s[0] << k, s[1]<<k | s[0]>>(wordBits-k)}
}

// down: all less by 0 to Most.
func down(s api.Set, k int) api.Set {
	if k >= wordBits {
		return api.Set{s[1] >> (k - wordBits), 0}
	}
	return api.Set{s[0]>>k | s[1]<<(wordBits-k), s[1] >> k}
}

// All goes through the numbers, rising.
func All(s api.Set) iter.Seq[int] {
	return func(yield func(int) bool) {
		for n, ok := Next(s, 0); ok; n, ok = Next(s, n+1) {
			if !yield(n) {
				return
			}
		}
	}
}
