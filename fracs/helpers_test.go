package fracs_test

import (
	"math/big"
	"testing"

	"gusset/api"
	"gusset/fracs"
	"gusset/ints"
	"gusset/nats"
)

// num returns the integer that s spells.
func num(s string) *big.Int {
	n, ok := new(big.Int).SetString(s, 10)
	if !ok {
		panic("no integer: " + s)
	}
	return n
}

// rat returns the fraction that s spells.
func rat(s string) *big.Rat {
	r, ok := new(big.Rat).SetString(s)
	if !ok {
		panic("no fraction: " + s)
	}
	return r
}

// power returns 2^n + plus.
func power(n uint, plus int64) *big.Int {
	p := new(big.Int).Lsh(big.NewInt(1), n)
	return p.Add(p, big.NewInt(plus))
}

// product returns a b.
func product(a, b *big.Int) *big.Int { return new(big.Int).Mul(a, b) }

// over returns n/d.
func over(n, d *big.Int) *big.Rat { return new(big.Rat).SetFrac(n, d) }

// negative returns -r.
func negative(r *big.Rat) *big.Rat { return new(big.Rat).Neg(r) }

// nat returns the Nat of the absolute value of n, made by arithmetic alone, so that it may be of any length.
// It is put together from halves, because long numbers would take a while digit by digit.
func nat(n *big.Int) nats.Nat {
	abs := new(big.Int).Abs(n)
	if abs.IsUint64() {
		return nats.Of(abs.Uint64())
	}
	half := max(1, min(abs.BitLen()/128, 4000)) // digits to the base 2^64; Pow computes no longer power
	shift, e := nats.Pow(nats.Add(nats.Of(1<<64-1), nats.Of(1)), half)
	if e != api.OK {
		panic("no Nat for a number in a test")
	}
	high := new(big.Int).Rsh(abs, uint(64*half))
	low := new(big.Int).And(abs, power(uint(64*half), -1))
	return nats.Add(nats.Mul(nat(high), shift), nat(low))
}

// integer returns the Int of n.
func integer(n *big.Int) ints.Int { return ints.From(n.Sign() < 0, nat(n)) }

// frac returns the Frac of r.
func frac(r *big.Rat) fracs.Frac {
	a, e := fracs.From(integer(r.Num()), nat(r.Denom()))
	if e != api.OK {
		panic("no Frac for a fraction in a test")
	}
	return a
}

// read returns the Frac with the text s.
func read(t *testing.T, s string) fracs.Frac {
	t.Helper()
	a, e := fracs.Parse(s)
	if e != api.OK {
		t.Fatalf("Parse(%q): error %d", s, e)
	}
	return a
}

// want fails unless got is the number r: in its text, in its parts, and as a value.
func want(t *testing.T, what string, got fracs.Frac, r *big.Rat) {
	t.Helper()
	if s := fracs.Text(got); s != r.RatString() {
		t.Fatalf("%s: got %s, want %s", what, s, r.RatString())
	}
	if fracs.Num(got) != integer(r.Num()) || fracs.Den(got) != nat(r.Denom()) || fracs.Whole(got) != r.IsInt() {
		t.Fatalf("%s: the parts of %s are wrong", what, r.RatString())
	}
	if got != frac(r) {
		t.Fatalf("%s: %s is not equal to itself made another way", what, r.RatString())
	}
}

// wantCode fails unless got is code, and the number is 0 if code is an error.
func wantCode(t *testing.T, what string, a fracs.Frac, got, code api.Errno) {
	t.Helper()
	if got != code || code != api.OK && a != (fracs.Frac{}) {
		t.Errorf("%.60s: number %.60s, error %d; want error %d", what, fracs.Text(a), got, code)
	}
}

// edges returns fractions at which something may go wrong, and their negatives: 0, integers, and fractions
// whose parts are around powers of 2, have long common divisors with each other, or none.
func edges() []*big.Rat {
	list := []*big.Rat{
		rat("0"), rat("1"), rat("2"), rat("6"), rat("1/2"), rat("1/3"), rat("2/3"), rat("3/2"), rat("5/6"), rat("7/12"), rat("1/12"),
	}
	tops := []*big.Int{big.NewInt(1), big.NewInt(6), power(63, -1), power(63, 0), power(64, -1), power(64, 0), power(128, 1)}
	for _, n := range tops {
		for _, d := range []*big.Int{power(64, 0), power(64, 1), power(128, -1), num("6000000000000000000000")} {
			list = append(list, over(n, d))
		}
		list = append(list, over(n, big.NewInt(1)))
	}
	for _, r := range list[1:] {
		list = append(list, negative(r))
	}
	return list
}

// series is a sequence of numbers that is the same in each run.
type series struct{ state uint64 }

func (s *series) next() uint64 {
	s.state ^= s.state << 13
	s.state ^= s.state >> 7
	s.state ^= s.state << 17
	return s.state * 0x2545f4914f6cdd1d
}

// size returns a number greater than 0 of at most n digits to the base 2^64.
func (s *series) size(n int) *big.Int {
	out := new(big.Int)
	for range n {
		out.Lsh(out, 64).Or(out, new(big.Int).SetUint64(s.next()))
	}
	out.Rsh(out, uint(s.next()%64))
	return out.Add(out, big.NewInt(1))
}

// fraction returns a fraction of either sign with parts of at most n digits to the base 2^64.
func (s *series) fraction(n int) *big.Rat {
	r := over(s.size(n), s.size(n))
	if s.next()>>63 == 1 {
		r.Neg(r)
	}
	return r
}

// pairs returns pairs of fractions: each edge with each, and a sequence of longer ones, some of whose parts
// have long common divisors.
func pairs() [][2]*big.Rat {
	var out [][2]*big.Rat
	list := edges()
	for _, a := range list {
		for _, b := range list {
			out = append(out, [2]*big.Rat{a, b})
		}
	}
	s := &series{88172645463325252}
	for i := range 300 {
		a, b := s.fraction(1+i%5), s.fraction(1+i/5%4)
		common := new(big.Rat).SetInt(s.size(1 + i%3))
		out = append(out, [2]*big.Rat{a, b},
			[2]*big.Rat{new(big.Rat).Quo(a, common), new(big.Rat).Quo(b, common)},
			[2]*big.Rat{new(big.Rat).Quo(a, common), new(big.Rat).Mul(b, common)})
	}
	return out
}
