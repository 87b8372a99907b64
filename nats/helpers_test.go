package nats_test

import (
	"math/big"
	"testing"

	"gusset/api"
	"gusset/nats"
)

// power returns 2^n + plus.
func power(n uint, plus int64) *big.Int {
	p := new(big.Int).Lsh(big.NewInt(1), n)
	return p.Add(p, big.NewInt(plus))
}

// nat returns the Nat of n, made by arithmetic alone, so that numbers of any length can be had.
func nat(n *big.Int) nats.Nat {
	base := nats.Add(nats.Of(1<<64-1), nats.Of(1))
	out := nats.Of(0)
	for i := (n.BitLen()+63)/64 - 1; i >= 0; i-- {
		digit := new(big.Int).Rsh(n, uint(64*i))
		digit.And(digit, power(64, -1))
		out = nats.Add(nats.Mul(out, base), nats.Of(digit.Uint64()))
	}
	return out
}

// want fails unless got is the number n, both in its text and as a value.
func want(t *testing.T, what string, got nats.Nat, n *big.Int) {
	t.Helper()
	if s := nats.Text(got); s != n.String() {
		t.Fatalf("%s: got %s, want %s", what, s, n)
	}
	if got != nat(n) {
		t.Fatalf("%s: %s is not equal to itself made another way", what, n)
	}
}

// wantCode fails unless got is code, and the number is 0 wherever code is an error.
func wantCode(t *testing.T, what string, a nats.Nat, got, code api.Errno) {
	t.Helper()
	if got != code || code != api.OK && a != (nats.Nat{}) {
		t.Fatalf("%s: number %s, error %d; want error %d", what, nats.Text(a), got, code)
	}
}

// edges returns numbers at which something may go wrong: 0, those around powers of 2^64 and of 10,
// and those whose digits to the base 2^64 are extreme.
func edges() []*big.Int {
	list := []*big.Int{big.NewInt(0), big.NewInt(1), big.NewInt(2), big.NewInt(3), big.NewInt(10)}
	for _, n := range []uint{31, 32, 33, 62, 63, 64, 65, 127, 128, 129, 191, 192, 256, 320} {
		for plus := int64(-1); plus <= 1; plus++ {
			list = append(list, power(n, plus))
		}
	}
	for _, n := range []int64{18, 19, 20, 38, 57, 100} {
		p := new(big.Int).Exp(big.NewInt(10), big.NewInt(n), nil)
		list = append(list, p, new(big.Int).Sub(p, big.NewInt(1)))
	}
	extreme := []uint64{0, 1, 1 << 63, 1<<64 - 1}
	for i := range 64 {
		list = append(list, fromDigits(extreme[i%4], extreme[i/4%4], extreme[i/16]))
	}
	return list
}

// fromDigits returns the number with these digits to the base 2^64, the highest first.
func fromDigits(digits ...uint64) *big.Int {
	out := new(big.Int)
	for _, d := range digits {
		out.Lsh(out, 64).Or(out, new(big.Int).SetUint64(d))
	}
	return out
}

// series is a sequence of numbers that is the same in each run.
type series struct{ state uint64 }

func (s *series) digit() uint64 {
	s.state ^= s.state << 13
	s.state ^= s.state >> 7
	s.state ^= s.state << 17
	switch s.state * 0x9e3779b97f4a7c15 >> 61 {
	case 0:
		return 0
	case 1:
		return 1<<64 - 1
	case 2:
		return 1 << 63
	}
	return s.state * 0x2545f4914f6cdd1d
}

// number returns a number of at most n digits to the base 2^64.
func (s *series) number(n int) *big.Int {
	out := new(big.Int)
	for range n {
		out.Lsh(out, 64).Or(out, new(big.Int).SetUint64(s.digit()))
	}
	return out.Rsh(out, uint(s.digit()%64))
}

// pairs returns pairs of numbers: each edge with each, and a sequence of longer ones.
func pairs() [][2]*big.Int {
	var out [][2]*big.Int
	list := edges()
	for _, a := range list {
		for _, b := range list {
			out = append(out, [2]*big.Int{a, b})
		}
	}
	s := &series{88172645463325252}
	for i := range 2000 {
		out = append(out, [2]*big.Int{s.number(1 + i%9), s.number(1 + i/9%7)})
	}
	return out
}
