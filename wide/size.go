package wide

import (
	"math/bits"

	"binnacle/api"
)

// factors takes the signs off two ints, and tells whether their product is below 0.
func factors(a, b int) (x, y uint64, below bool) {
	return far(a), far(b), (a < 0) != (b < 0)
}

// fraction takes the signs off what is divided and its divisor, and tells whether their quotient is below 0.
func fraction(a api.Wide, d int) (m size, n uint64, below bool) {
	return sizeOf(a), far(d), (a.Hi < 0) != (d < 0)
}

// shift takes the sign off what is shifted.
func shift(a api.Wide, n int) (m size, by uint, below bool) {
	return sizeOf(a), uint(n), a.Hi < 0
}

// product is x times y, or as far below 0.
func product(x, y uint64, below bool) api.Wide {
	hi, lo := bits.Mul64(x, y)
	return signed(size{[2]uint64{lo, hi}}, below)
}

// quotient is how often n is in m, what is left then, and what that lacks of one n more. The sign is only handed on.
func quotient(m size, n uint64, below bool) (whole, rest, lack size, sign bool) {
	hi, left := bits.Div64(0, m.half[high], n)
	lo, left := bits.Div64(left, m.half[low], n)
	return size{[2]uint64{lo, hi}}, size{[2]uint64{left, 0}}, size{[2]uint64{n - left, 0}}, below
}

// shifted tells what quotient does, of 2^by instead of n.
func shifted(m size, by uint, below bool) (whole, rest, lack size, sign bool) {
	whole = down(m, by)
	rest = minus(m, up(whole, by))
	power := up(size{[2]uint64{1, 0}}, by)
	return whole, rest, minus(power, rest), below
}

// nearest goes on to the next one where less is lacking than is left. Rest is held against what is lacking, not twice the rest against the divisor, which might have one bit too many.
func nearest(whole, rest, lack size, below bool) api.Wide {
	odd := whole.half[low]&1 == 1
	if less(lack, rest) || lack == rest && odd {
		whole = next(whole)
	}
	return signed(whole, below)
}

// far is how far n is from 0. The least int comes to 2^63, since what is negated goes round.
func far(n int) uint64 {
	if n < 0 {
		return -uint64(n)
	}
	return uint64(n)
}

// sizeOf is how far a is from 0.
func sizeOf(a api.Wide) size {
	if a.Hi < 0 {
		a = Neg(a)
	}
	return size{[2]uint64{a.Lo, uint64(a.Hi)}}
}

// signed is the wide number that is m away from 0, modulo 2^128.
func signed(m size, below bool) api.Wide {
	a := api.Wide{Hi: int(m.half[high]), Lo: m.half[low]}
	if below {
		return Neg(a)
	}
	return a
}

// less tells whether a is less than b.
func less(a, b size) bool {
	if a.half[high] == b.half[high] {
		return a.half[low] < b.half[low]
	}
	return a.half[high] < b.half[high]
}

// minus is a without b, which is not greater.
func minus(a, b size) size {
	lo, borrow := bits.Sub64(a.half[low], b.half[low], 0)
	hi, _ := bits.Sub64(a.half[high], b.half[high], borrow)
	return size{[2]uint64{lo, hi}}
}

// next is one more than a.
func next(a size) size {
	lo, carry := bits.Add64(a.half[low], 1, 0)
	return size{[2]uint64{lo, a.half[high] + carry}}
}

// down is m divided by 2^n, n at most 127, without what is left. From 64 on a shift crosses from half to half whole, where 64 - n would be below 0.
func down(m size, n uint) size {
	if n >= 64 {
		return size{[2]uint64{m.half[high] >> (n - 64), 0}}
	}
	return size{[2]uint64{m.half[low]>>n | m.half[high]<<(64-n), m.half[high] >> n}}
}

// up is m times 2^n, n at most 127, modulo 2^128.
func up(m size, n uint) size {
	if n >= 64 {
		return size{[2]uint64{0, m.half[low] << (n - 64)}}
	}
	return size{[2]uint64{m.half[low] << n, m.half[high]<<n | m.half[low]>>(64-n)}}
}
