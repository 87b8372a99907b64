package ints_test

import (
	"math/big"
	"testing"

	"gusset/api"
	"gusset/ints"
	"gusset/nats"
)

// num returns the integer that s spells.
func num(s string) *big.Int {
	n, ok := new(big.Int).SetString(s, 0)
	if !ok {
		panic("no number: " + s)
	}
	return n
}

// power returns 2^n + plus.
func power(n uint, plus int64) *big.Int {
	p := new(big.Int).Lsh(big.NewInt(1), n)
	return p.Add(p, big.NewInt(plus))
}

// neg returns -n.
func neg(n *big.Int) *big.Int { return new(big.Int).Neg(n) }

// nat returns the Nat of the absolute value of n, which has at most MaxDigits decimal digits.
func nat(n *big.Int) nats.Nat {
	out, e := nats.Parse(new(big.Int).Abs(n).String())
	if e != api.OK {
		panic("no Nat for a number in a test")
	}
	return out
}

// integer returns the Int of n.
func integer(n *big.Int) ints.Int { return ints.From(n.Sign() < 0, nat(n)) }

// want fails unless got is the number n, both in its text and as a value.
func want(t *testing.T, what string, got ints.Int, n *big.Int) {
	t.Helper()
	if s := ints.Text(got); s != n.String() {
		t.Fatalf("%s: got %s, want %s", what, s, n)
	}
	if got != integer(n) {
		t.Fatalf("%s: %s is not equal to itself made another way", what, n)
	}
}

// edges returns numbers at which something may go wrong, and their negatives: 0, small ones, and those around
// powers of 2 and 10.
func edges() []*big.Int {
	var list []*big.Int
	for n := range int64(13) {
		list = append(list, big.NewInt(n))
	}
	for _, n := range []uint{31, 32, 62, 63, 64, 65, 127, 128, 129, 192, 320} {
		for plus := int64(-1); plus <= 1; plus++ {
			list = append(list, power(n, plus))
		}
	}
	list = append(list, num("10000000000000000000"), num("9999999999999999999"))
	for _, n := range list[1:] {
		list = append(list, neg(n))
	}
	return list
}

// series is a sequence of numbers that is the same in each run.
type series struct{ state uint64 }

func (s *series) next() uint64 {
	s.state ^= s.state << 13
	s.state ^= s.state >> 7
	s.state ^= s.state << 17
	return s.state * 0x2545f4914f6cdd1d
}

// number returns a number of at most n digits to the base 2^64, of either sign.
func (s *series) number(n int) *big.Int {
	out := new(big.Int)
	for range n {
		out.Lsh(out, 64).Or(out, new(big.Int).SetUint64(s.next()))
	}
	out.Rsh(out, uint(s.next()%64))
	if s.next()>>63 == 1 {
		out.Neg(out)
	}
	return out
}

// pairs returns pairs of numbers: each edge with each, and a sequence of longer ones.
func pairs() [][2]*big.Int {
	var out [][2]*big.Int
	list := edges()
	for _, a := range list {
		for _, b := range list {
			out = append(out, [2]*big.Int{a, b})
		}
	}
	s := &series{88172645463325252}
	for i := range 1000 {
		out = append(out, [2]*big.Int{s.number(1 + i%9), s.number(1 + i/9%7)})
	}
	return out
}
