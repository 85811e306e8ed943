// Package num: see ../../shared/doc/01-num.md.
package num

import (
	"math/bits"

	"touchstone/api"
)

// In is whether a number is within its bounds.
func In(n int) bool { return -api.MaxInt <= n && n <= api.MaxInt }

// Abs is how much a number is.
func Abs(n int) (int, api.Errno) {
	if !In(n) {
		return 0, api.ErrRange
	}
	return int(size(n)), api.OK
}

// Add is a sum.
func Add(a, b int) (int, api.Errno) {
	if !In(a) || !In(b) {
		return 0, api.ErrRange
	}
	// Twice MaxInt is far below 2^63: the sum can't wrap round ahead of its being looked at.
	return kept(a + b)
}

// Sub is a difference.
func Sub(a, b int) (int, api.Errno) {
	if !In(a) || !In(b) {
		return 0, api.ErrRange
	}
	return kept(a - b)
}

// Mul is a product.
func Mul(a, b int) (int, api.Errno) {
	if !In(a) || !In(b) {
		return 0, api.ErrRange
	}
	// A product of 64 bits could wrap round to one within the bounds, so it is taken whole.
	high, low := bits.Mul64(size(a), size(b))
	if high != 0 || low > api.MaxInt {
		return 0, api.ErrOver
	}
	if (a < 0) != (b < 0) {
		return -int(low), api.OK
	}
	return int(low), api.OK
}

// Ediv is a quotient, and what is left, that is never below 0.
func Ediv(a, b int) (int, int, api.Errno) {
	if !In(a) || !In(b) {
		return 0, 0, api.ErrRange
	}
	if b == 0 {
		return 0, 0, api.ErrNone
	}
	q, r := a/b, a%b
	if r >= 0 {
		return q, r, api.OK
	}
	// Go rounds towards 0, which leaves a rest of a's sign: one more of b's size makes up for it.
	if b > 0 {
		return q - 1, r + b, api.OK
	}
	return q + 1, r - b, api.OK
}

// kept is a number that came out of others, if it is within the bounds.
func kept(n int) (int, api.Errno) {
	if !In(n) {
		return 0, api.ErrOver
	}
	return n, api.OK
}

// size is a number without its sign, said of numbers within the bounds.
func size(n int) uint64 {
	if n < 0 {
		return uint64(-n)
	}
	return uint64(n)
}
