package nats

import "math/bits"

// Add returns a + b.
func Add(a, b Nat) Nat {
	if small(a) && small(b) {
		sum, carry := bits.Add64(a.low, b.low, 0)
		return twoDigits(carry, sum)
	}
	x, y := digits(a), digits(b)
	if len(x) < len(y) {
		x, y = y, x
	}
	sum := make([]uint64, len(x)+1)
	copy(sum, x)
	addTo(sum, y)
	return pack(sum)
}

// Sub returns a - b and whether b is at most a.
func Sub(a, b Nat) (Nat, bool) {
	if Cmp(a, b) < 0 {
		return Nat{}, false
	}
	if small(a) {
		return Of(a.low - b.low), true
	}
	rest := digits(a)
	takeFrom(rest, digits(b))
	return pack(rest), true
}

// Mul returns a * b.
func Mul(a, b Nat) Nat {
	if small(a) && small(b) {
		return twoDigits(bits.Mul64(a.low, b.low))
	}
	x, y := digits(a), digits(b)
	product := make([]uint64, len(x)+len(y))
	for i, digit := range x {
		product[i+len(y)] = addProduct(product[i:], y, digit)
	}
	return pack(product)
}

// addTo adds y to d, which has no fewer digits, and drops what is carried out of d.
func addTo(d, y []uint64) {
	carry := uint64(0)
	for i, digit := range y {
		d[i], carry = bits.Add64(d[i], digit, carry)
	}
	for i := len(y); i < len(d) && carry > 0; i++ {
		d[i], carry = bits.Add64(d[i], 0, carry)
	}
}

// takeFrom takes y from d, which is no less.
func takeFrom(d, y []uint64) {
	borrow := uint64(0)
	for i, digit := range y {
		d[i], borrow = bits.Sub64(d[i], digit, borrow)
	}
	for i := len(y); i < len(d) && borrow > 0; i++ {
		d[i], borrow = bits.Sub64(d[i], 0, borrow)
	}
}

// addProduct adds digit * y to as many digits of d as y has, and returns what is carried out of them.
func addProduct(d, y []uint64, digit uint64) uint64 {
	carry := uint64(0)
	for i, factor := range y {
		high, low := bits.Mul64(factor, digit)
		sum, over := bits.Add64(d[i], low, 0)
		high += over
		d[i], over = bits.Add64(sum, carry, 0)
		carry = high + over
	}
	return carry
}

// takeProduct takes digit * y from d, which has more digits than y, and reports whether that was too much.
// If so, d comes out too great by 2^64 to the power len(d).
func takeProduct(d, y []uint64, digit uint64) bool {
	borrow := uint64(0)
	for i, factor := range y {
		high, low := bits.Mul64(factor, digit)
		rest, under := bits.Sub64(d[i], low, 0)
		high += under
		d[i], under = bits.Sub64(rest, borrow, 0)
		borrow = high + under
	}
	for i := len(y); i < len(d) && borrow > 0; i++ {
		d[i], borrow = bits.Sub64(d[i], borrow, 0)
	}
	return borrow > 0
}
