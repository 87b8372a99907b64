package mods_test

import (
	"math/big"

	"gusset/api"
	"gusset/fracs"
	"gusset/ints"
)

// greatest is the greatest number that a function takes, and topPrime the greatest prime of that size.
const (
	greatest = 1<<32 - 1
	topPrime = 4294967291
)

// residue returns the residue of n modulo p, by the definition.
func residue(n *big.Int, p uint32) uint32 {
	if p == 0 {
		return 0
	}
	return uint32(new(big.Int).Mod(n, whole(p)).Uint64())
}

// whole returns n as a big.Int.
func whole(n uint32) *big.Int { return new(big.Int).SetUint64(uint64(n)) }

// coprime reports whether a and p have no common divisor greater than 1.
func coprime(a *big.Int, p uint32) bool {
	g := new(big.Int).GCD(nil, nil, new(big.Int).Abs(a), whole(p))
	return g.Cmp(whole(1)) == 0
}

// integer returns the Int of n.
func integer(n *big.Int) ints.Int {
	a, e := ints.Parse(n.String())
	if e != api.OK {
		panic("no Int for an integer in a test")
	}
	return a
}

// frac returns the Frac of r.
func frac(r *big.Rat) fracs.Frac {
	a, e := fracs.Parse(r.RatString())
	if e != api.OK {
		panic("no Frac for a fraction in a test")
	}
	return a
}

// read returns the Frac with the text s.
func read(s string) fracs.Frac {
	r, ok := new(big.Rat).SetString(s)
	if !ok {
		panic("no fraction: " + s)
	}
	return frac(r)
}

// series is a sequence of numbers that is the same in each run.
type series struct{ state uint64 }

func (s *series) next() uint64 {
	s.state ^= s.state << 13
	s.state ^= s.state >> 7
	s.state ^= s.state << 17
	return s.state * 0x2545f4914f6cdd1d
}

// integer returns a number of either sign of at most n digits to the base 2^64.
func (s *series) integer(n int) *big.Int {
	out := new(big.Int)
	for range n {
		out.Lsh(out, 64).Or(out, new(big.Int).SetUint64(s.next()))
	}
	out.Rsh(out, uint(s.next()%64))
	if s.next()>>63 == 1 {
		out.Neg(out)
	}
	return out
}

// numbers returns numbers that are small, at the powers of 2 where a product or a sum grows over a size, at the
// greatest one, and others of different lengths.
func numbers() []uint32 {
	list := []uint32{0, 1, 2, 3, 4, 5, 6, 7, 9, 10, 12, 25, 60, 97, 100, 1000, 65535, 65536, 65537, 1000003,
		1<<31 - 2, 1<<31 - 1, 1 << 31, 1<<31 + 1, topPrime - 1, topPrime, topPrime + 1, greatest - 1, greatest}
	s := &series{2028}
	for i := range 12 {
		list = append(list, uint32(s.next()>>(32+2*i)))
	}
	return list
}

// primes returns primes of different lengths, those at the ends of what there may be among them.
func primes() []uint32 {
	return []uint32{2, 3, 5, 7, 11, 61, 97, 251, 257, 65521, 65537, 1000003, 1<<31 - 19, 1<<31 - 1, 2147483659, topPrime}
}

// integers returns integers of both signs: small ones, those at the ends of the sizes of machines, and longer ones.
func integers() []*big.Int {
	list := []*big.Int{}
	for n := int64(0); n <= 30; n++ {
		list = append(list, big.NewInt(n))
	}
	for _, n := range []uint{31, 32, 63, 64, 65, 128, 1000} {
		power := new(big.Int).Lsh(big.NewInt(1), n)
		list = append(list, power, new(big.Int).Sub(power, big.NewInt(1)), new(big.Int).Add(power, big.NewInt(1)))
	}
	s := &series{2029}
	for i := range 30 {
		list = append(list, s.integer(1+i%6))
	}
	for _, n := range list[1:] {
		list = append(list, new(big.Int).Neg(n))
	}
	return list
}

// fractions returns fractions of both signs: small ones, and longer ones.
func fractions() []*big.Rat {
	list := []*big.Rat{}
	for n := int64(-8); n <= 8; n++ {
		for d := int64(1); d <= 12; d++ {
			list = append(list, big.NewRat(n, d))
		}
	}
	s := &series{2030}
	for i := range 40 {
		d := s.integer(1 + i%4)
		list = append(list, new(big.Rat).SetFrac(s.integer(1+i%3), d.Add(d.Abs(d), big.NewInt(1))))
	}
	return list
}

// sieved returns which of the numbers below n are primes: those that are no multiple of a lesser one but 1.
func sieved(n int) []bool {
	is := make([]bool, n)
	for i := 2; i < n; i++ {
		is[i] = true
	}
	for i := range is {
		for j := 2 * i; is[i] && j < n; j += i {
			is[j] = false
		}
	}
	return is
}

// divisors returns the primes below 2^16. A number below 2^32 is a prime if no other one of them divides it.
func divisors() []uint32 {
	list := []uint32{}
	for n, is := range sieved(1 << 16) {
		if is {
			list = append(list, uint32(n))
		}
	}
	return list
}

// undivided reports whether n is greater than 1 and no other number of the list divides it.
func undivided(n uint32, list []uint32) bool {
	for _, q := range list {
		if n%q == 0 && n != q {
			return false
		}
	}
	return n > 1
}
