package bareiss

import (
	"gusset/fracs"
	"gusset/ints"
	"gusset/nats"
)

// mapped returns what f makes of the elements of l.
func mapped[A, B any](l []A, f func(A) B) []B {
	made := make([]B, len(l))
	for i, x := range l {
		made[i] = f(x)
	}
	return made
}

// fraction returns n as a fraction.
func fraction(n ints.Int) fracs.Frac {
	x, _ := fracs.From(n, nats.Of(1))
	return x
}

// product returns the product of some numbers, or 1 if there are none.
func product(l ...ints.Int) ints.Int {
	all := ints.Of(1)
	for _, x := range l {
		all = ints.Mul(all, x)
	}
	return all
}

// leastCommon returns the least common multiple of some numbers that are not 0, or 1 if there are none.
func leastCommon(l ...nats.Nat) nats.Nat {
	all := nats.Of(1)
	for _, n := range l {
		rest, _, _ := nats.Div(n, nats.Gcd(all, n))
		all = nats.Mul(all, rest)
	}
	return all
}
