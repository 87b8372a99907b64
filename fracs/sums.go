package fracs

import (
	"gusset/ints"
	"gusset/nats"
)

// Add returns a + b.
func Add(a, b Frac) Frac { return combine(a, b, ints.Add) }

// Sub returns a - b.
func Sub(a, b Frac) Frac { return combine(a, b, ints.Sub) }

// combine returns the sum or the difference of a and b, whichever by returns for integers.
//
// Over the least common denominator nothing cancels but divisors of what the two denominators have in common.
// So the greatest common divisors are taken of numbers that are shorter than those of the result.
func combine(a, b Frac, by func(x, y ints.Int) ints.Int) Frac {
	common := nats.Gcd(Den(a), Den(b))
	p, q := partOfNat(Den(a), common), partOfNat(Den(b), common)
	num, rest := cancel(by(times(a.num, q), times(b.num, p)), common)
	return lowest(num, nats.Mul(nats.Mul(p, q), rest))
}

// Sum returns the sum of its arguments.
func Sum(l ...Frac) Frac {
	var t total
	each(l, t.add)
	return t.sum
}

// total is the sum of what has been added to it.
type total struct{ sum Frac }

func (t *total) add(a Frac) { t.sum = Add(t.sum, a) }

// each passes the elements of l to take, one by one.
func each(l []Frac, take func(Frac)) {
	for _, a := range l {
		take(a)
	}
}
