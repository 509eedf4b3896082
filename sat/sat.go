// Package sat: whole numbers of 32 bits that never go round: see doc/01-sat.md.
package sat

import (
	"math"

	"steadyhand/api"
)

// maxShift: 31 bits up every number but 0 is at an end, 31 down only its sign is
// left; and 64 bits still hold what comes of it.
const maxShift = 31

// To32: P3.
func To32(n int64) int32 { return int32(min(max(n, api.Least), api.Most)) }

// To16: P3.
func To16(n int32) int16 { return int16(min(max(n, math.MinInt16), math.MaxInt16)) }

// Word: P3.
func Word(n int32) uint16 { return uint16(min(max(n, 0), math.MaxUint16)) }

// Add: P4.
func Add(a, b int32) int32 { return To32(int64(a) + int64(b)) }

// Sub: P4.
func Sub(a, b int32) int32 { return To32(int64(a) - int64(b)) }

// Neg: P4.
func Neg(a int32) int32 { return To32(-int64(a)) }

// Abs: P4.
func Abs(a int32) int32 {
	if a < 0 {
		return Neg(a)
	}
	return a
}

// Shift: P5.
func Shift(a int32, n int) int32 {
	n = min(max(n, -maxShift), maxShift)
	if n < 0 {
		return a >> -n
	}
	return To32(int64(a) << n)
}

// Clamp: P5.
func Clamp(a, low, high int32) int32 {
	if low > high {
		low, high = high, low
	}
	return min(max(a, low), high)
}

// Sum: P6.
func Sum(l []int32) (int32, api.Errno) {
	if len(l) > api.MaxList {
		return 0, api.ErrLarge
	}
	// In 64 bits, so that what one number takes too far another may bring back.
	var sum int64
	for _, n := range l {
		sum += int64(n)
	}
	return To32(sum), api.OK
}
