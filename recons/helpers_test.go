package recons_test

import (
	"math/big"

	"gusset/api"
	"gusset/fracs"
	"gusset/ints"
	"gusset/nats"
	"gusset/recons"
)

// whole returns n as a big.Int.
func whole(n int64) *big.Int { return big.NewInt(n) }

// plus, minus and times return the sum, the difference and the product of a and b.
func plus(a, b *big.Int) *big.Int  { return new(big.Int).Add(a, b) }
func minus(a, b *big.Int) *big.Int { return new(big.Int).Sub(a, b) }
func times(a, b *big.Int) *big.Int { return new(big.Int).Mul(a, b) }

// remainder returns what remains of n modulo m, from 0 to m - 1.
func remainder(n, m *big.Int) *big.Int { return new(big.Int).Mod(n, m) }

// common returns the greatest common divisor of a and b.
func common(a, b *big.Int) *big.Int {
	return new(big.Int).GCD(nil, nil, new(big.Int).Abs(a), new(big.Int).Abs(b))
}

// coprime reports whether a and b have no common divisor greater than 1.
func coprime(a, b *big.Int) bool { return common(a, b).Cmp(whole(1)) == 0 }

// isSmall reports whether 2 n n is less than m.
func isSmall(n, m *big.Int) bool { return times(whole(2), times(n, n)).Cmp(m) < 0 }

// far reports whether r is small for m, by the definition.
func far(r *big.Rat, m *big.Int) bool { return isSmall(r.Num(), m) && isSmall(r.Denom(), m) }

// fits reports whether r is congruent to a modulo m, by the definition.
func fits(r *big.Rat, a, m *big.Int) bool {
	if m.Sign() == 0 || !coprime(r.Denom(), m) {
		return false
	}
	return remainder(minus(r.Num(), times(a, r.Denom())), m).Sign() == 0
}

// residueOf returns the residue of r modulo m, which has no common divisor with the denominator.
func residueOf(r *big.Rat, m *big.Int) *big.Int {
	inverse := new(big.Int).ModInverse(r.Denom(), m)
	return remainder(times(r.Num(), inverse), m)
}

// integer returns the Int of n. A text would hold no longer ones than the limit.
func integer(n *big.Int) ints.Int { return ints.From(n.Sign() < 0, natural(n)) }

// natural returns the Nat of the absolute value of n.
func natural(n *big.Int) nats.Nat {
	base := nats.Mul(nats.Of(1<<32), nats.Of(1<<32))
	out := nats.Of(0)
	for _, word := range backward(new(big.Int).Abs(n)) {
		out = nats.Add(nats.Mul(out, base), nats.Of(word))
	}
	return out
}

// backward returns the digits of n to the base 2^64, the highest first.
func backward(n *big.Int) []uint64 {
	var out []uint64
	for i := (n.BitLen() + 63) / 64; i > 0; i-- {
		part := new(big.Int).Rsh(n, uint(64*(i-1)))
		out = append(out, part.And(part, new(big.Int).SetUint64(1<<64-1)).Uint64())
	}
	return out
}

// frac returns the Frac of r.
func frac(r *big.Rat) fracs.Frac {
	a, e := fracs.From(integer(r.Num()), natural(r.Denom()))
	if e != api.OK {
		panic("no Frac for a fraction in a test")
	}
	return a
}

// rest returns the congruence x = r modulo m.
func rest(r, m *big.Int) recons.Rest { return recons.Rest{R: integer(r), M: natural(m)} }

// small returns the congruence x = r modulo m.
func small(r, m int64) recons.Rest { return rest(whole(r), whole(m)) }

// series is a sequence of numbers that is the same in each run.
type series struct{ state uint64 }

func (s *series) next() uint64 {
	s.state ^= s.state << 13
	s.state ^= s.state >> 7
	s.state ^= s.state << 17
	return s.state * 0x2545f4914f6cdd1d
}

// below returns a number from 0 to n - 1.
func (s *series) below(n int) int { return int(s.next() >> 1 % uint64(n)) }

// size returns a number greater than 0 of at most n digits to the base 2^64.
func (s *series) size(n int) *big.Int {
	out := new(big.Int)
	for range n {
		out.Lsh(out, 64).Or(out, new(big.Int).SetUint64(s.next()))
	}
	out.Rsh(out, uint(s.next()%64))
	return out.Add(out, whole(1))
}

// integer returns a number of either sign of at most n digits to the base 2^64.
func (s *series) integer(n int) *big.Int {
	out := s.size(n)
	if s.next()>>63 == 1 {
		out.Neg(out)
	}
	return out
}

// great returns moduli of different lengths: powers of 2, 3 and 10, a prime, numbers at twice a square, and others.
func great() []*big.Int {
	power := func(base, n int64) *big.Int { return new(big.Int).Exp(whole(base), whole(n), nil) }
	list := []*big.Int{power(2, 64), power(2, 65), power(2, 200), power(2, 201), power(3, 100), power(10, 60), minus(power(2, 127), whole(1))}
	s := &series{2034}
	for i := range 12 {
		n := s.size(1 + i%3)
		twice := times(whole(2), times(n, n))
		list = append(list, s.size(1+i%5), twice, plus(twice, whole(1)), times(n, times(n, n)))
	}
	return list
}
