package ints

import "gusset/nats"

// Div returns the quotient and the nonnegative remainder of a and b.
func Div(a, b Int) (q, r Int, ok bool) {
	quotient, rest, ok := nats.Div(a.magnitude, b.magnitude)
	if !ok {
		return Int{}, Int{}, false
	}
	if a.negative && rest != (nats.Nat{}) {
		// -(quotient |b| + rest) is -(quotient + 1) |b| + (|b| - rest).
		quotient = nats.Add(quotient, nats.Of(1))
		rest, _ = nats.Sub(b.magnitude, rest)
	}
	return From(a.negative != b.negative, quotient), From(false, rest), true
}

// Gcd returns the greatest common divisor g of a and b, and x and y with a x + b y = g.
//
// The definition of x and y begins at the end of Euclid's algorithm. This begins at the front, which takes no
// memory for the steps in between: each number of the sequence a, b, remainder, remainder, .. is a x + b y
// for an x and a y that follow from those of the two numbers before it, and that are, for the last number
// before 0, the ones of the definition, up to that number's sign.
func Gcd(a, b Int) (g, x, y Int) {
	g, x = a, Of(1)
	next, nextX := b, Of(0)
	for next != (Int{}) {
		q, r, _ := Div(g, next)
		g, next = next, r
		x, nextX = nextX, Sub(x, Mul(q, nextX))
	}
	sign := Of(int64(Sign(g)))
	g, x = Mul(sign, g), Mul(sign, x)
	// a x + b y = g leaves one y if b is not 0. If it is, Div returns the 0 that y has to be.
	y, _, _ = Div(Sub(g, Mul(a, x)), b)
	return g, x, y
}
