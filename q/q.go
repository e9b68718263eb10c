// Package q is layer 1: numbers that are checked. See shared/doc/01-q.md.
package q

import (
	"math"
	"math/bits"

	"servitor/api"
)

// Add two numbers; false: no room.
func Add(a, b int64) (int64, bool) {
	sum := a + b
	// It wrapped round just if both parts have the sign that the sum hasn't.
	if (a^sum)&(b^sum) < 0 {
		return 0, false
	}
	return sum, true
}

// Sub: the difference of two numbers; false: no room.
func Sub(a, b int64) (int64, bool) {
	diff := a - b
	// It wrapped round just if the signs are unlike, and the difference hasn't a's.
	if (a^b)&(a^diff) < 0 {
		return 0, false
	}
	return diff, true
}

// Mul: the product of two numbers; false: no room.
func Mul(a, b int64) (int64, bool) {
	high, low := bits.Mul64(size(a), size(b))
	if high != 0 {
		return 0, false
	}
	return signed(low, unlike(a, b))
}

// Div: a quotient, towards 0.
func Div(a, b int64) (int64, api.Errno) {
	if b == 0 {
		return 0, api.ErrZero
	}
	if a == math.MinInt64 && b == -1 {
		return 0, api.ErrOver
	}
	return a / b, api.OK
}

// Mod: what is left by a quotient.
func Mod(a, b int64) (int64, api.Errno) {
	if b == 0 {
		return 0, api.ErrZero
	}
	// Of -2^63 by -1, too, whose quotient has no room: the language has 0 there.
	return a % b, api.OK
}

// MulDiv: a product by a number, rounded down.
func MulDiv(a, b, c int64) (int64, api.Errno) {
	if c == 0 {
		return 0, api.ErrZero
	}
	if c < 0 {
		return 0, api.ErrArg
	}
	high, low := bits.Mul64(size(a), size(b))
	// A quotient of 2^64 and more has no room, and bits.Div64 none for it.
	if high >= uint64(c) {
		return 0, api.ErrOver
	}
	quotient, rest := bits.Div64(high, low, uint64(c))
	negative := unlike(a, b)
	if negative && rest != 0 {
		// Rounded down is away from 0 here; 2^64 - 1 would wrap round to 0.
		if quotient == math.MaxUint64 {
			return 0, api.ErrOver
		}
		quotient++
	}
	n, ok := signed(quotient, negative)
	if !ok {
		return 0, api.ErrOver
	}
	return n, api.OK
}

// Sqrt: a square root, rounded down.
func Sqrt(n int64) int64 {
	if n < 0 {
		return 0
	}
	// The root has at most 32 bits, so each square that is tried has room in a uint64.
	root := uint64(0)
	for bit := uint64(1) << 31; bit != 0; bit >>= 1 {
		if next := root | bit; next*next <= uint64(n) {
			root = next
		}
	}
	return int64(root)
}

// Clamp a number between two.
func Clamp(n, lo, hi int64) int64 {
	// lo comes last: it is the answer where hi is below it.
	return max(lo, min(n, hi))
}

// unlike: is just one of two numbers below 0?
func unlike(a, b int64) bool { return (a < 0) != (b < 0) }

// size of a number without its sign.
func size(n int64) uint64 {
	if n < 0 {
		// Wraps round to 2^63 for -2^63, as it shall.
		return -uint64(n)
	}
	return uint64(n)
}

// signed: the number that n is with a sign; false: no room.
func signed(n uint64, negative bool) (int64, bool) {
	if negative && n <= 1<<63 {
		// Wraps round to -2^63 for 2^63, as it shall.
		return int64(-n), true
	}
	if !negative && n <= math.MaxInt64 {
		return int64(n), true
	}
	return 0, false
}
