package roots_test

import (
	"math/big"
	"testing"

	"gusset/api"
	"gusset/fracs"
)

// rat returns the fraction that s spells.
func rat(s string) *big.Rat {
	r, ok := new(big.Rat).SetString(s)
	if !ok {
		panic("no fraction: " + s)
	}
	return r
}

// whole returns n as a fraction.
func whole(n int64) *big.Rat { return big.NewRat(n, 1) }

// power returns base^n, also for a negative n.
func power(base int64, n int) *big.Rat {
	p := new(big.Rat).SetInt(new(big.Int).Exp(big.NewInt(base), big.NewInt(int64(max(n, -n))), nil))
	if n < 0 {
		p.Inv(p)
	}
	return p
}

// plus returns a + b.
func plus(a, b *big.Rat) *big.Rat { return new(big.Rat).Add(a, b) }

// minus returns a - b.
func minus(a, b *big.Rat) *big.Rat { return new(big.Rat).Sub(a, b) }

// product returns the product of its arguments.
func product(l ...*big.Rat) *big.Rat {
	p := whole(1)
	for _, r := range l {
		p.Mul(p, r)
	}
	return p
}

// square returns r r.
func square(r *big.Rat) *big.Rat { return product(r, r) }

// frac returns the Frac of r.
func frac(r *big.Rat) fracs.Frac {
	a, e := fracs.Parse(r.RatString())
	if e != api.OK {
		panic("no Frac for a fraction in a test")
	}
	return a
}

// read returns the Frac with the text s.
func read(s string) fracs.Frac { return frac(rat(s)) }

// wantPair fails unless a function returned the number and the error that it had to.
func wantPair(t *testing.T, what string, got fracs.Frac, e api.Errno, want fracs.Frac, code api.Errno) {
	t.Helper()
	if got != want || e != code {
		t.Errorf("%.80s: %.80s, error %d; want %.80s, error %d", what, fracs.Text(got), e, fracs.Text(want), code)
	}
}

// series is a sequence of numbers that is the same in each run.
type series struct{ state uint64 }

func (s *series) next() uint64 {
	s.state ^= s.state << 13
	s.state ^= s.state >> 7
	s.state ^= s.state << 17
	return s.state * 0x2545f4914f6cdd1d
}

// size returns a number greater than 0 of at most n digits to the base 2^64.
func (s *series) size(n int) *big.Int {
	out := new(big.Int)
	for range n {
		out.Lsh(out, 64).Or(out, new(big.Int).SetUint64(s.next()))
	}
	out.Rsh(out, uint(s.next()%64))
	return out.Add(out, big.NewInt(1))
}

// fraction returns a fraction greater than 0 with parts of at most n digits to the base 2^64.
func (s *series) fraction(n int) *big.Rat { return new(big.Rat).SetFrac(s.size(n), s.size(n)) }

// samples returns fractions that are not negative: 0, small ones, squares and what lies just beside them, powers
// of 2 as small as the squares of the multiples are, and others of different lengths.
func samples() []*big.Rat {
	list := []*big.Rat{rat("0"), power(10, 40), power(10, -40), power(10, 41), power(10, -41), power(7, -300)}
	for n := int64(1); n <= 26; n++ {
		for _, d := range []int64{1, 2, 3, 4, 5, 7, 8, 9, 12, 16, 25, 27} {
			list = append(list, big.NewRat(n, d))
		}
	}
	for _, n := range []int{2, 13, 20, 199, 200, 201, 202, 203, 204, 400} {
		list = append(list, power(2, -n), product(whole(3), power(2, -n)), product(whole(9), power(2, -n)))
	}
	s := &series{2027}
	for i := range 60 {
		r := s.fraction(1 + i%4)
		list = append(list, r, square(r), new(big.Rat).SetInt(s.size(1+i%4)))
	}
	tiny := power(2, -500)
	for n := int64(1); n <= 12; n++ {
		for _, root := range []*big.Rat{whole(n), product(whole(n), power(2, -3)), product(whole(n), power(2, 70)), product(whole(n), power(2, -100))} {
			list = append(list, square(root), plus(square(root), tiny), minus(square(root), tiny))
		}
	}
	return list
}
