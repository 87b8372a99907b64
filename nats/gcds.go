package nats

import "math/bits"

// Gcd returns the greatest common divisor of a and b.
func Gcd(a, b Nat) Nat {
	if Cmp(a, b) < 0 {
		a, b = b, a
	}
	if small(a) {
		return Of(gcdOfDigits(a.low, b.low))
	}
	x, y := digits(a), digits(b)
	for len(y) > 1 {
		x, y = descend(x, y)
	}
	if len(y) == 0 {
		return pack(x)
	}
	return Of(gcdOfDigits(y[0], divideByDigit(x, y[0])))
}

// gcdOfDigits returns the greatest common divisor of a and b.
func gcdOfDigits(a, b uint64) uint64 {
	for b != 0 {
		a, b = b, a%b
	}
	return a
}

// combination stands for the number a x + b y, where x and y are known from elsewhere.
type combination struct{ a, b int64 }

// descend returns two neighbours further down in the sequence of remainders that begins with x and y.
// x is no less than y, and y has at least two digits.
//
// Most quotients of Euclid's algorithm depend on the highest digits alone (Lehmer). So many steps are done
// on those first, and then on the numbers all at once, which takes far fewer passes over long numbers.
func descend(x, y []uint64) ([]uint64, []uint64) {
	first, second := certainSteps(x, y)
	if first.b == 0 {
		_, rest := divide(x, y)
		return y, rest
	}
	return combine(x, y, first), combine(x, y, second)
}

// certainSteps returns the two neighbours in the sequence of remainders of x and y that can be reached by
// quotients that the highest 62 binary digits of x, and those of y at the same places, determine.
func certainSteps(x, y []uint64) (first, second combination) {
	const window = 62 // the sums below stay at most 2^62, so that int64 holds them
	drop := len(x)*digitBits - bits.LeadingZeros64(x[len(x)-1]) - window
	p, q := int64(above(x, drop)), int64(above(y, drop))
	first, second = combination{1, 0}, combination{0, 1}
	for q+second.a != 0 && q+second.b != 0 {
		// What was dropped lets the true quotient lie anywhere between these two.
		quotient := (p + first.a) / (q + second.a)
		if quotient != (p+first.b)/(q+second.b) {
			break
		}
		p, q = q, p-quotient*q
		first, second = second, combination{first.a - quotient*second.a, first.b - quotient*second.b}
	}
	return first, second
}

// above returns the number with the digits d without its lowest n binary digits, if that is less than 2^64.
func above(d []uint64, n int) uint64 {
	at, shift := n/digitBits, n%digitBits
	if at >= len(d) {
		return 0
	}
	out := d[at] >> shift
	if at+1 < len(d) {
		out |= d[at+1] << (digitBits - shift)
	}
	return out
}

// combine returns the digits of the number that c stands for. It is not negative, though c.a or c.b is at most 0.
func combine(x, y []uint64, c combination) []uint64 {
	if c.a <= 0 {
		return difference(y, x, uint64(c.b), uint64(-c.a))
	}
	return difference(x, y, uint64(c.a), uint64(-c.b))
}

// difference returns the digits of a x - b y, which is not negative.
func difference(x, y []uint64, a, b uint64) []uint64 {
	out := make([]uint64, max(len(x), len(y))+1)
	out[len(x)] = addProduct(out, x, a)
	takeProduct(out, y, b)
	return trim(out)
}
