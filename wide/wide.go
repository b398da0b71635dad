// Package wide is layer 1: numbers of 128 bits: see shared/doc/01-wide.md.
package wide

import (
	"math/bits"

	"binnacle/api"
)

// The places of a size's halves.
const (
	low  = 0
	high = 1
)

// size is how far a wide number is from 0. Its halves have no sign, since 2^127, which the least wide number is away, is no wide number above 0.
type size struct{ half [2]uint64 }

// Of is n as a wide number.
func Of(n int) api.Wide { return api.Wide{Hi: n >> 63, Lo: uint64(n)} }

// Add is the sum, modulo 2^128.
func Add(a, b api.Wide) api.Wide {
	lo, carry := bits.Add64(a.Lo, b.Lo, 0)
	hi, _ := bits.Add64(uint64(a.Hi), uint64(b.Hi), carry)
	return api.Wide{Hi: int(hi), Lo: lo}
}

// Neg is as far on the other side of 0, modulo 2^128: of -2^127 it is itself.
func Neg(a api.Wide) api.Wide {
	lo, borrow := bits.Sub64(0, a.Lo, 0)
	hi, _ := bits.Sub64(0, uint64(a.Hi), borrow)
	return api.Wide{Hi: int(hi), Lo: lo}
}

// Mul is the whole product: that of two ints is never too great.
func Mul(a, b int) api.Wide { return product(factors(a, b)) }

// Cmp is -1, 0 or 1, as a is less than b, the same, or greater.
func Cmp(a, b api.Wide) int {
	switch {
	case a == b:
		return 0
	case a.Hi < b.Hi || a.Hi == b.Hi && a.Lo < b.Lo:
		return -1
	}
	return 1
}

// Round divides by 2^bits, to the nearest one, halves to the even one.
func Round(a api.Wide, bits int) (api.Wide, api.Errno) {
	if bits < 0 || bits > 127 {
		return api.Wide{}, api.ErrArg
	}
	return nearest(shifted(shift(a, bits))), api.OK
}

// Div divides by d, to the nearest one, halves to the even one.
func Div(a api.Wide, d int) (api.Wide, api.Errno) {
	if d == 0 {
		return api.Wide{}, api.ErrArg
	}
	return nearest(quotient(fraction(a, d))), api.OK
}

// Fit is the nearest int that is a fixed number, and whether it is another one than a.
func Fit(a api.Wide) (int, bool) {
	switch {
	case Cmp(a, Of(api.MaxFix)) > 0:
		return api.MaxFix, true
	case Cmp(a, Of(-api.MaxFix)) < 0:
		return -api.MaxFix, true
	}
	return int(a.Lo), false
}
