package nats

import (
	"math/bits"

	"gusset/api"
)

// MaxPower is the greatest number of binary digits that a power may need: those of the base, times the exponent.
const MaxPower = 1 << 18

// Pow returns a to the power n.
func Pow(a Nat, n int) (Nat, api.Errno) {
	if n < 0 {
		return Nat{}, api.ErrArg
	}
	if n > api.MaxDigits || n > 0 && Bits(a) > MaxPower/n {
		return Nat{}, api.ErrLimit
	}
	power := Of(1)
	length := bits.Len(uint(n))
	for i := range length {
		power = Mul(power, power)
		if n>>(length-1-i)&1 == 1 {
			power = Mul(power, a)
		}
	}
	return power, api.OK
}

// Sqrt returns the integer square root of a.
func Sqrt(a Nat) Nat {
	if a == Of(0) {
		return a
	}
	// Newton's method, from above: the numbers decrease until one is the root.
	root := powerOfTwo((Bits(a) + 1) / 2)
	for {
		next := halfOfSum(root, a)
		if Cmp(next, root) >= 0 {
			return root
		}
		root = next
	}
}

// halfOfSum returns half the sum of root and a/root, rounded down; root is not 0.
func halfOfSum(root, a Nat) Nat {
	quotient, _, _ := Div(a, root)
	d := digits(Add(root, quotient))
	shiftRight(d, 1)
	return pack(d)
}

// powerOfTwo returns 2^n.
func powerOfTwo(n int) Nat {
	d := make([]uint64, n/digitBits+1)
	d[n/digitBits] = uint64(1) << (n % digitBits)
	return pack(d)
}
