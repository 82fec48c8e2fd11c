package digit

import (
	"cmp"
	"iter"
	"math/bits"
	"slices"
)

// limbs is a whole number that is not below 0: words of 32 bits, the lowest one first, the highest one not 0.
type limbs []uint32

// words is what the operations of long numbers take: limbs, or a part of them.
type words interface{ ~[]uint32 }

// plain is what a long number is made from.
type plain interface{ ~int | ~uint32 | ~uint64 }

// chunk is the greatest power of 10 in a word, which has chunkDigits digits behind its 1.
const (
	chunk       = 1_000_000_000
	chunkDigits = 9
)

// natural is a number that is not below 0 as limbs.
func natural[N plain](n N) limbs {
	l := make(limbs, 0, 2)
	for rest := uint64(n); rest > 0; rest >>= 32 {
		l = append(l, uint32(rest))
	}
	return l
}

// magnitude is a number without its sign.
func magnitude(n int) limbs { return natural(max(n, -n)) }

// power is a base to the power of n.
func power(base, n int) limbs {
	result, square := natural(1), natural(base)
	for ; n > 0; n >>= 1 {
		if n&1 == 1 {
			result = product(result, square)
		}
		if n > 1 {
			square = product(square, square)
		}
	}
	return result
}

func (l limbs) isZero() bool { return len(l) == 0 }

// digits gives the decimal digits as bytes, the lowest one first; 0 has none.
func (l limbs) digits() iter.Seq[byte] {
	return func(yield func(byte) bool) {
		for rest := l; !rest.isZero(); {
			var low uint32
			rest, low = shared(rest, chunk)
			for n := 0; n < chunkDigits && (low > 0 || !rest.isZero()); n++ {
				if !yield(byte('0' + low%10)) {
					return
				}
				low /= 10
			}
		}
	}
}

// length is how many decimal digits there are; 0 has none.
func (l limbs) length() int {
	n := 0
	for range l.digits() {
		n++
	}
	return n
}

// trimmed drops words of 0 at the high end.
func trimmed[L words](l L) L {
	n := len(l)
	for n > 0 && l[n-1] == 0 {
		n--
	}
	return l[:n]
}

// word is the word at a place; there are zeros above the highest one.
func word[L words](l L, at int) uint64 {
	if at >= len(l) {
		return 0
	}
	return uint64(l[at])
}

// compare compares two long numbers.
func compare[A, B words](a A, b B) int {
	if len(a) != len(b) {
		return cmp.Compare(len(a), len(b))
	}
	for i := len(a) - 1; i >= 0; i-- {
		if a[i] != b[i] {
			return cmp.Compare(a[i], b[i])
		}
	}
	return 0
}

// sum adds.
func sum[A, B words](a A, b B) limbs {
	out := make(limbs, max(len(a), len(b))+1)
	var carry uint64
	for i := range out {
		carry += word(a, i) + word(b, i)
		out[i] = uint32(carry)
		carry >>= 32
	}
	return trimmed(out)
}

// difference subtracts b, which is not above a.
func difference[A, B words](a A, b B) limbs {
	out := make(limbs, len(a))
	var borrow uint64
	for i := range out {
		left := uint64(a[i]) - word(b, i) - borrow
		out[i] = uint32(left)
		borrow = left >> 63
	}
	return trimmed(out)
}

// product multiplies.
func product[A, B words](a A, b B) limbs {
	out := make(limbs, len(a)+len(b))
	for i, x := range a {
		var carry uint64
		for j, y := range b {
			carry += uint64(x)*uint64(y) + uint64(out[i+j])
			out[i+j] = uint32(carry)
			carry >>= 32
		}
		out[i+len(b)] = uint32(carry)
	}
	return trimmed(out)
}

// shared divides by a single word that is not 0.
func shared[A words](a A, by uint32) (quotient limbs, rest uint32) {
	quotient = make(limbs, len(a))
	for i := len(a) - 1; i >= 0; i-- {
		front := uint64(rest)<<32 | uint64(a[i])
		quotient[i], rest = uint32(front/uint64(by)), uint32(front%uint64(by))
	}
	return trimmed(quotient), rest
}

// divided divides by b, which is not 0.
func divided[A, B words](a A, b B) (quotient, rest limbs) {
	if compare(a, b) < 0 {
		return nil, slices.Clone(limbs(a))
	}
	if len(b) == 1 {
		quotient, low := shared(a, b[0])
		return quotient, natural(low)
	}
	// The highest bit of the divisor must be set: only then are its two highest words enough to guess each word of the quotient.
	by := bits.LeadingZeros32(b[len(b)-1])
	divisor, left := trimmed(shifted(b, by)), shifted(a, by)
	quotient = make(limbs, len(left)-len(b))
	for at := len(quotient) - 1; at >= 0; at-- {
		quotient[at] = taken(left[at:at+len(b)+1], divisor)
	}
	return trimmed(quotient), unshifted(left[:len(b)], by)
}

// shifted is a number times 2 to the power of fewer than 32 bits, with one word more, even if that is 0.
func shifted[A words](a A, by int) limbs {
	out := make(limbs, len(a)+1)
	for i, w := range a {
		wide := uint64(w) << by
		out[i] |= uint32(wide)
		out[i+1] = uint32(wide >> 32)
	}
	return out
}

// unshifted undoes shifted.
func unshifted[A words](a A, by int) limbs {
	out := make(limbs, len(a))
	for i := range out {
		out[i] = uint32((word(a, i+1)<<32 | word(a, i)) >> by)
	}
	return trimmed(out)
}

// taken takes a divisor away from left, which has one word more, as often as it goes, and returns how often that was: less than 2^32 times.
func taken(left, divisor limbs) uint32 {
	times := guessed(left, divisor)
	if tooMany := takeAway(left, divisor, times); tooMany {
		giveBack(left, divisor)
		times--
	}
	return uint32(times)
}

// guessed is how often a divisor goes, by its two highest words; that is right, or one too many.
func guessed(left, divisor limbs) uint64 {
	n := len(divisor)
	high, next := uint64(divisor[n-1]), uint64(divisor[n-2])
	front := uint64(left[n])<<32 | uint64(left[n-1])
	times, rest := front/high, front%high
	for rest < 1<<32 && (times >= 1<<32 || times*next > rest<<32|uint64(left[n-2])) {
		times--
		rest += high
	}
	return times
}

// takeAway subtracts a divisor so many times, and reports whether that went below 0.
func takeAway(left, divisor limbs, times uint64) bool {
	var carry, borrow uint64
	for i := range left {
		carry += times * word(divisor, i)
		rest := uint64(left[i]) - carry&(1<<32-1) - borrow
		left[i] = uint32(rest)
		borrow = rest >> 63
		carry >>= 32
	}
	return borrow > 0
}

// giveBack adds a divisor that was taken away once too often: the carry at the end meets what was borrowed.
func giveBack(left, divisor limbs) {
	var carry uint64
	for i := range left {
		carry += uint64(left[i]) + word(divisor, i)
		left[i] = uint32(carry)
		carry >>= 32
	}
}
