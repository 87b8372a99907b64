package nats

import (
	"math"
	"math/bits"
)

// Div returns the quotient and the remainder of a and b.
func Div(a, b Nat) (q, r Nat, ok bool) {
	if b == Of(0) {
		return Nat{}, Nat{}, false
	}
	if Cmp(a, b) < 0 {
		return Nat{}, a, true
	}
	if small(a) {
		return Of(a.low / b.low), Of(a.low % b.low), true
	}
	if small(b) {
		quotient := digits(a)
		rest := divideByDigit(quotient, b.low)
		return pack(quotient), Of(rest), true
	}
	quotient, rest := divide(digits(a), digits(b))
	return pack(quotient), pack(rest), true
}

// divideByDigit makes d its quotient by the digit, which is not 0, and returns the remainder.
func divideByDigit(d []uint64, digit uint64) uint64 {
	rest := uint64(0)
	for i := range d {
		at := len(d) - 1 - i
		d[at], rest = bits.Div64(rest, d[at], digit)
	}
	return rest
}

// divide returns the quotient and the remainder of x and y, without zeros at their high ends.
// y has at least two digits, the highest of them not 0, and x has no fewer.
func divide(x, y []uint64) (quotient, rest []uint64) {
	// Doubled until its highest digit is at least 2^63, y lets its two highest digits tell a quotient digit
	// to within 1; the quotient stays the same if x is doubled as often.
	shift := bits.LeadingZeros64(y[len(y)-1])
	rest = shiftLeft(x, shift)
	by := trim(shiftLeft(y, shift))
	quotient = make([]uint64, len(x)-len(y)+1)
	for i := range quotient {
		at := len(quotient) - 1 - i
		quotient[at] = takeMultiple(rest[at:at+len(by)+1], by)
	}
	shiftRight(rest, shift)
	return trim(quotient), trim(rest)
}

// takeMultiple takes from part the greatest multiple of by that it contains, and returns the factor.
// part has one digit more than by, and is less than 2^64 by.
func takeMultiple(part, by []uint64) uint64 {
	factor := guess(part, by)
	if takeProduct(part, by, factor) {
		addTo(part, by)
		factor--
	}
	return factor
}

// guess returns the quotient of part and by, or the quotient plus 1.
func guess(part, by []uint64) uint64 {
	n := len(by)
	top, second := by[n-1], by[n-2]
	if part[n] == top {
		return math.MaxUint64
	}
	digit, rest := bits.Div64(part[n], part[n-1], top)
correct:
	for {
		// The two highest digits of by, times digit, must not exceed the three highest of part.
		high, low := bits.Mul64(digit, second)
		switch {
		case high < rest, high == rest && low <= part[n-2]:
			break correct
		}
		digit--
		carry := uint64(0)
		rest, carry = bits.Add64(rest, top, 0)
		if carry > 0 {
			break correct
		}
	}
	return digit
}

// shiftLeft returns the digits of d times 2^n, for n < 64, in one place more than d has.
func shiftLeft(d []uint64, n int) []uint64 {
	out := make([]uint64, len(d)+1)
	copy(out, d)
	for i := range d {
		at := len(d) - i
		out[at] = out[at]<<n | out[at-1]>>(digitBits-n)
	}
	out[0] <<= n
	return out
}

// shiftRight makes d its quotient by 2^n, for n < 64.
func shiftRight(d []uint64, n int) {
	for i := range d {
		d[i] >>= n
		if i+1 < len(d) {
			d[i] |= d[i+1] << (digitBits - n)
		}
	}
}
