// Package nums is layer 1: see shared/doc/01-nums.md.
package nums

import (
	"math"
	"math/bits"

	"hoistway/api"
)

// Add: the sum. ErrRange: there is none.
func Add(a, b int64) (int64, api.Errno) {
	sum := a + b
	// Only two numbers of one sign can leave the range, and then the sum has the other sign.
	if (a < 0) == (b < 0) && (sum < 0) != (a < 0) {
		return 0, api.ErrRange
	}
	return sum, api.OK
}

// Sub: the difference. ErrRange: there is none.
func Sub(a, b int64) (int64, api.Errno) {
	rest := a - b
	// Only two numbers of unlike signs can leave the range, and then the sign isn't the first one's.
	if (a < 0) != (b < 0) && (rest < 0) != (a < 0) {
		return 0, api.ErrRange
	}
	return rest, api.OK
}

// Size: a number without its sign.
func Size(a int64) uint64 {
	if a < 0 {
		// Negated only behind the conversion: the least number has no positive counterpart of its own kind.
		return -uint64(a)
	}
	return uint64(a)
}

// Mul: the product. ErrRange: there is none.
func Mul(a, b int64) (int64, api.Errno) {
	high, low := bits.Mul64(Size(a), Size(b))
	if high != 0 {
		return 0, api.ErrRange
	}
	return signed(low, (a < 0) != (b < 0))
}

// signed: the number of a size, below 0 or not. ErrRange: there is none.
func signed(size uint64, below bool) (int64, api.Errno) {
	switch {
	case below && size <= 1<<63:
		return int64(-size), api.OK
	case !below && size <= math.MaxInt64:
		return int64(size), api.OK
	}
	return 0, api.ErrRange
}

// Div: the quotient, rounded down. ErrZero, ErrRange.
func Div(a, b int64) (int64, api.Errno) {
	if e := divides(a, b); e != api.OK {
		return 0, e
	}
	q := a / b
	if a%b != 0 && (a < 0) != (b < 0) {
		q--
	}
	return q, api.OK
}

// Ceil: the quotient, rounded up. ErrZero, ErrRange.
func Ceil(a, b int64) (int64, api.Errno) {
	if e := divides(a, b); e != api.OK {
		return 0, e
	}
	q := a / b
	if a%b != 0 && (a < 0) == (b < 0) {
		q++
	}
	return q, api.OK
}

// divides: has a quotient of these its number? ErrZero, ErrRange.
func divides(a, b int64) api.Errno {
	switch {
	case b == 0:
		return api.ErrZero
	case a == math.MinInt64 && b == -1:
		return api.ErrRange
	}
	return api.OK
}

// Mod: what Div leaves. ErrZero.
func Mod(a, b int64) (int64, api.Errno) {
	if b == 0 {
		return 0, api.ErrZero
	}
	r := a % b
	if r != 0 && (r < 0) != (b < 0) {
		r += b
	}
	return r, api.OK
}

// MulDiv: a times b, over c, rounded down, whatever a times b is. ErrArg: one is below 0; ErrZero; ErrRange.
func MulDiv(a, b, c int64) (int64, api.Errno) {
	switch {
	case a < 0 || b < 0 || c < 0:
		return 0, api.ErrArg
	case c == 0:
		return 0, api.ErrZero
	}
	high, low := bits.Mul64(uint64(a), uint64(b))
	// From there on the quotient has more than 64 bits, and Div64 panics.
	if high >= uint64(c) {
		return 0, api.ErrRange
	}
	q, _ := bits.Div64(high, low, uint64(c))
	return signed(q, false)
}

// Gcd: the greatest number that divides both; 0 of noughts.
func Gcd(a, b int64) uint64 {
	x, y := Size(a), Size(b)
	for y != 0 {
		x, y = y, x%y
	}
	return x
}

// Pow: a, so many times with itself. ErrArg: below 0 times; ErrRange.
func Pow(a int64, n int) (int64, api.Errno) {
	if n < 0 {
		return 0, api.ErrArg
	}
	// Powers of -1, 0 and 1 never leave the range, but from the first one on depend on whether n is odd alone.
	if Size(a) <= 1 && n > 2 {
		n = 2 - n%2
	}
	power := int64(1)
	for range n {
		var e api.Errno
		if power, e = Mul(power, a); e != api.OK {
			return 0, e
		}
	}
	return power, api.OK
}
