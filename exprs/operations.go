package exprs

import (
	"gusset/api"
	"gusset/fracs"
	"gusset/ints"
	"gusset/nats"
	"gusset/polys"
)

// combined returns the sum of a and b, or their difference if the operator at that position is a minus.
func combined(a, b polys.Poly, operator byte, at int) polys.Poly {
	limit(size(a)+size(b), at)
	if operator == '-' {
		return polys.Sub(a, b)
	}
	return polys.Add(a, b)
}

// product returns a b. at is the position of the operator.
func product(a, b polys.Poly, at int) polys.Poly {
	if polys.Degree(a)+polys.Degree(b) > api.MaxDegree {
		fail(api.ErrDegree, at)
	}
	limit(size(a)+size(b), at)
	p, _ := polys.Mul(a, b)
	return p
}

// quotient returns p/n. at is the position of the operator, and place that of the number.
func quotient(p polys.Poly, n nats.Nat, at, place int) polys.Poly {
	inverse, e := fracs.From(ints.Of(1), n)
	if e != api.OK {
		fail(e, place)
	}
	limit(size(p)+nats.Bits(n), at)
	return polys.Scale(p, inverse)
}

// power returns p to the power n. at is the position of the operator.
func power(p polys.Poly, n nats.Nat, at int) polys.Poly {
	exponent, ok := n.U64()
	if !ok || exponent > api.MaxDegree || int(exponent)*polys.Degree(p) > api.MaxDegree {
		fail(api.ErrDegree, at)
	}
	limit(int(exponent)*size(p), at)
	p, _ = polys.Pow(p, int(exponent))
	return p
}

// constant returns the polynomial n.
func constant(n nats.Nat) polys.Poly {
	c, _ := fracs.From(ints.From(false, n), nats.Of(1))
	return polys.Const(c)
}

// size returns the size of p.
func size(p polys.Poly) int {
	sum := 0
	for _, t := range p {
		sum += nats.Bits(ints.Abs(fracs.Num(t.C))) + nats.Bits(fracs.Den(t.C))
	}
	return sum
}

// limit fails at an operator that would work on more than MaxSize binary digits.
func limit(digits, at int) {
	if digits > MaxSize {
		fail(api.ErrLimit, at)
	}
}
