package mods

import (
	"math/bits"

	"gusset/api"
)

// Top is greater than every prime that Next returns.
const Top = 1 << 31

// Prime reports whether n is a prime.
//
// Modulo an odd prime n, a number to the power n - 1 is 1, unless its residue is 0, and 1 has no roots but 1 and
// n - 1. So its power to the odd part of n - 1 is 1, or comes by repeated squares to n - 1 before it comes to 1.
// Of the witnesses 2, 7 and 61, one at least shows that this is not so for a composite n below 4759123141
// (Jaeschke, 1993), and so for each that is a uint32.
func Prime(n uint32) bool {
	if n < 4 || n%2 == 0 {
		return n == 2 || n == 3
	}
	last := n - 1
	minusOne := func(power uint32) bool { return power == last }
	halvings := bits.TrailingZeros32(last)
search:
	for _, witness := range [...]uint32{2, 7, 61} {
		if witness == n {
			continue // its residue is 0
		}
		power := Pow(witness, uint64(last>>halvings), n)
		if power == 1 {
			continue
		}
		for range halvings {
			if minusOne(power) {
				continue search
			}
			power = Mul(power, power, n)
		}
		return false
	}
	return true
}

// Next returns the least prime that is greater than n and less than Top.
func Next(n uint32) (uint32, api.Errno) {
	for q := uint64(n) + 1; q < Top; q++ { // n + 1 need not be a uint32
		if Prime(uint32(q)) {
			return uint32(q), api.OK
		}
	}
	return 0, api.ErrLimit
}
