package decimals_test

import (
	"math/big"
	"testing"

	"gusset/api"
	"gusset/decimals"
	"gusset/fracs"
)

// ways returns the rounding modes.
func ways() []int { return []int{decimals.Down, decimals.Up, decimals.Nearest} }

// rat returns the fraction that s spells.
func rat(s string) *big.Rat {
	r, ok := new(big.Rat).SetString(s)
	if !ok {
		panic("no fraction: " + s)
	}
	return r
}

// power returns base^n.
func power(base int64, n int) *big.Int {
	return new(big.Int).Exp(big.NewInt(base), big.NewInt(int64(n)), nil)
}

// over returns n/d.
func over(n, d *big.Int) *big.Rat { return new(big.Rat).SetFrac(n, d) }

// under returns 1/d.
func under(d *big.Int) *big.Rat { return over(big.NewInt(1), d) }

// plus returns a + b.
func plus(a, b *big.Rat) *big.Rat { return new(big.Rat).Add(a, b) }

// product returns the product of its arguments.
func product(l ...*big.Int) *big.Int {
	p := big.NewInt(1)
	for _, n := range l {
		p.Mul(p, n)
	}
	return p
}

// negative returns -r.
func negative(r *big.Rat) *big.Rat { return new(big.Rat).Neg(r) }

// frac returns the Frac of r.
func frac(r *big.Rat) fracs.Frac {
	a, e := fracs.Parse(r.RatString())
	if e != api.OK {
		panic("no Frac for a fraction in a test")
	}
	return a
}

// read returns the Frac with the text s.
func read(s string) fracs.Frac { return frac(rat(s)) }

// tens returns 10^n as a Frac, for any n.
func tens(n int) fracs.Frac {
	a, e := fracs.Pow(fracs.Int(10), n)
	if e != api.OK {
		panic("no such power of ten in a test")
	}
	return a
}

// multiple returns the integer of the multiple of 10^-places to which r is rounded, by the definitions.
func multiple(r *big.Rat, places, way int) *big.Int {
	n := product(r.Num(), power(10, places))
	low, rest := new(big.Int).DivMod(n, r.Denom(), new(big.Int))
	if rest.Sign() == 0 {
		return low
	}
	high := new(big.Int).Add(low, big.NewInt(1))
	above := new(big.Int).Sub(r.Denom(), rest)
	switch {
	case way == decimals.Down, way == decimals.Nearest && rest.Cmp(above) < 0:
		return low
	case way == decimals.Up, rest.Cmp(above) > 0, low.Bit(0) == 1:
		return high
	}
	return low
}

// wantCode fails unless got is code.
func wantCode(t *testing.T, what string, got, code api.Errno) {
	t.Helper()
	if got != code {
		t.Errorf("%.60s: error %d; want error %d", what, got, code)
	}
}

// series is a sequence of numbers that is the same in each run.
type series struct{ state uint64 }

func (s *series) next() uint64 {
	s.state ^= s.state << 13
	s.state ^= s.state >> 7
	s.state ^= s.state << 17
	return s.state * 0x2545f4914f6cdd1d
}

// size returns a number greater than 0 of at most n digits to the base 2^64.
func (s *series) size(n int) *big.Int {
	out := new(big.Int)
	for range n {
		out.Lsh(out, 64).Or(out, new(big.Int).SetUint64(s.next()))
	}
	out.Rsh(out, uint(s.next()%64))
	return out.Add(out, big.NewInt(1))
}

// fraction returns a fraction of either sign with parts of at most n digits to the base 2^64.
func (s *series) fraction(n int) *big.Rat {
	r := over(s.size(n), s.size(n))
	if s.next()>>63 == 1 {
		r.Neg(r)
	}
	return r
}

// samples returns fractions of both signs: small ones, integers, and others of different lengths.
func samples() []*big.Rat {
	list := []*big.Rat{rat("0"), rat("1000000007"), rat("18446744073709551616/3"), under(power(10, 40)), under(power(2, 200))}
	for n := int64(1); n <= 25; n++ {
		for _, d := range []int64{1, 2, 3, 4, 7, 8, 10, 12, 20, 200, 1000, 2000} {
			list = append(list, big.NewRat(n, d), big.NewRat(n*101, d))
		}
	}
	s := &series{2026}
	for i := range 60 {
		list = append(list, s.fraction(1+i%5))
	}
	for _, r := range list[1:] {
		list = append(list, negative(r))
	}
	return list
}
