// Package wide is layer 1: numbers of 64 and 128 bits that tell when they do not fit: see shared/doc/01-wide.md.
package wide

import (
	"cmp"
	"math/bits"

	"tombola/api"
)

const (
	halfBits = 32
	halfMask = 1<<halfBits - 1
)

// Add is a sum.
func Add(a, b uint64) (uint64, bool) {
	sum := a + b
	if sum < a {
		return 0, false
	}
	return sum, true
}

// Sub is a difference.
func Sub(a, b uint64) (uint64, bool) {
	if a < b {
		return 0, false
	}
	return a - b, true
}

// Mul is a product that fits.
func Mul(a, b uint64) (uint64, bool) {
	return Fits(Full(a, b))
}

// Full is a product.
func Full(a, b uint64) api.Wide {
	aHigh, aLow := halves(a)
	bHigh, bLow := halves(b)
	carry, low := halves(aLow * bLow)
	// A product of halves leaves room for two more halves below 2^64, so neither sum wraps round.
	carry, middle := halves(aHigh*bLow + carry)
	otherCarry, middle := halves(aLow*bHigh + middle)
	return api.Wide{Hi: aHigh*bHigh + carry + otherCarry, Lo: middle<<halfBits | low}
}

// halves is the high and the low half of a number.
func halves(a uint64) (high, low uint64) {
	return a >> halfBits, a & halfMask
}

// Fits is a wide number that is below 2^64.
func Fits(a api.Wide) (uint64, bool) {
	if a.Hi != 0 {
		return 0, false
	}
	return a.Lo, true
}

// Sum is a sum of wide numbers.
func Sum(a, b api.Wide) (api.Wide, bool) {
	low, carry := bits.Add64(a.Lo, b.Lo, 0)
	high, over := bits.Add64(a.Hi, b.Hi, carry)
	if over != 0 {
		return api.Wide{}, false
	}
	return api.Wide{Hi: high, Lo: low}, true
}

// Less is a difference of wide numbers.
func Less(a, b api.Wide) (api.Wide, bool) {
	low, borrow := bits.Sub64(a.Lo, b.Lo, 0)
	high, under := bits.Sub64(a.Hi, b.Hi, borrow)
	if under != 0 {
		return api.Wide{}, false
	}
	return api.Wide{Hi: high, Lo: low}, true
}

// Times is a wide number so many times.
func Times(a api.Wide, b uint64) (api.Wide, bool) {
	high, ok := Mul(a.Hi, b)
	if !ok {
		return api.Wide{}, false
	}
	return Sum(api.Wide{Hi: high}, Full(a.Lo, b))
}

// Div is a quotient, rounded down, and the rest.
func Div(a api.Wide, d uint64) (api.Wide, uint64, bool) {
	if d == 0 {
		return api.Wide{}, 0, false
	}
	// Div64 panics unless its high word is below d: so it is handed what is left of a.Hi.
	low, rest := bits.Div64(a.Hi%d, a.Lo, d)
	return api.Wide{Hi: a.Hi / d, Lo: low}, rest, true
}

// Cmp tells which one is greater.
func Cmp(a, b api.Wide) int {
	if c := cmp.Compare(a.Hi, b.Hi); c != 0 {
		return c
	}
	return cmp.Compare(a.Lo, b.Lo)
}
