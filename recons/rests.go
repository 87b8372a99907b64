package recons

import (
	"gusset/api"
	"gusset/ints"
	"gusset/nats"
)

// Rest represents the congruence x = R modulo M.
type Rest struct {
	R ints.Int
	M nats.Nat
}

// Chinese combines congruences.
func Chinese(l ...Rest) (Rest, api.Errno) {
	for _, x := range l {
		if x.M == nats.Of(0) {
			return Rest{}, api.ErrZero
		}
	}
	all := Rest{M: nats.Of(1)}
	for _, x := range l {
		both, ok := join(all, x)
		if !ok {
			return Rest{}, api.ErrSingular
		}
		all = both
	}
	return all, api.OK
}

// join returns the congruence that is equivalent to a and b together, and whether any integer satisfies both.
// The moduli are not 0, and a is normal. So is the result.
func join(a, b Rest) (Rest, bool) {
	m, n := ints.From(false, a.M), ints.From(false, b.M)
	g, x, _ := ints.Gcd(m, n)
	if !congruent(a.R, b.R, ints.Abs(g)) {
		return Rest{}, false
	}
	// x times m is g modulo n. So it takes x times m to go on by g, and quotient times as many to get from a.R to
	// b.R modulo n. Every n/g times m are 0 modulo n.
	quotient, _, _ := ints.Div(ints.Sub(b.R, a.R), g)
	turn, _, _ := ints.Div(n, g)
	times := normal(Rest{R: ints.Mul(quotient, x), M: ints.Abs(turn)}).R
	return Rest{R: ints.Add(a.R, ints.Mul(times, m)), M: ints.Abs(ints.Mul(m, turn))}, true
}

// congruent reports whether a and b have the same remainder modulo m, which is not 0.
func congruent(a, b ints.Int, m nats.Nat) bool {
	return normal(Rest{R: a, M: m}) == normal(Rest{R: b, M: m})
}

// normal returns the congruence that is equivalent to x and whose R lies between 0 and M - 1. Of two congruences with
// the same modulus, those that are equivalent become equal. If M is 0, so is R.
func normal(x Rest) Rest {
	_, r, _ := ints.Div(x.R, ints.From(false, x.M))
	return Rest{R: r, M: x.M}
}
