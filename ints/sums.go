package ints

import "gusset/nats"

// Add returns a + b.
func Add(a, b Int) Int { return bySigns(a, b, Int.outward, Int.inward) }

// Sub returns a - b.
func Sub(a, b Int) Int { return bySigns(a, b, Int.inward, Int.outward) }

// Mul returns a * b.
func Mul(a, b Int) Int {
	return From(a.negative != b.negative, nats.Mul(a.magnitude, b.magnitude))
}

// bySigns returns a, moved by the absolute value of b: by alike if both numbers are negative or neither is,
// and by unlike otherwise.
func bySigns(a, b Int, alike, unlike func(Int, nats.Nat) Int) Int {
	if a.negative == b.negative {
		return alike(a, b.magnitude)
	}
	return unlike(a, b.magnitude)
}

// outward returns a, moved away from 0 by n. From 0 itself the way leads to n.
func (a Int) outward(n nats.Nat) Int { return From(a.negative, nats.Add(a.magnitude, n)) }

// inward returns a, moved towards 0 by n, and past it if n is greater than the absolute value of a.
// From 0 itself the way leads to -n.
func (a Int) inward(n nats.Nat) Int {
	if rest, ok := nats.Sub(a.magnitude, n); ok {
		return From(a.negative, rest)
	}
	past, _ := nats.Sub(n, a.magnitude)
	return From(!a.negative, past)
}
