package mods_test

import (
	"math/big"
	"slices"
	"testing"

	"gusset/api"
	"gusset/mods"
)

// samples returns residues modulo p: all of them if they are few.
func samples(p uint32) []uint32 {
	var list []uint32
	if p <= 11 {
		for a := range p {
			list = append(list, a)
		}
		return list
	}
	for _, n := range numbers() {
		list = append(list, n%p)
	}
	return append(list, p-1, p/2, p/3)
}

// wantRing fails unless the sums and products of three residues follow the laws of a ring.
func wantRing(t *testing.T, a, b, c, p uint32) {
	t.Helper()
	add := func(x, y uint32) uint32 { return mods.Add(x, y, p) }
	mul := func(x, y uint32) uint32 { return mods.Mul(x, y, p) }
	switch {
	case add(a, b) != add(b, a) || mul(a, b) != mul(b, a):
		t.Fatalf("order matters to %d and %d modulo %d", a, b, p)
	case add(add(a, b), c) != add(a, add(b, c)) || mul(mul(a, b), c) != mul(a, mul(b, c)):
		t.Fatalf("brackets matter to %d, %d and %d modulo %d", a, b, c, p)
	case mul(a, add(b, c)) != add(mul(a, b), mul(a, c)):
		t.Fatalf("%d times the sum of %d and %d modulo %d", a, b, c, p)
	case add(mods.Sub(a, b, p), b) != a || add(a, 0) != a || mul(a, 1) != a:
		t.Fatalf("%d is not itself, or not with %d taken away and added again, modulo %d", a, b, p)
	}
}

// P6.5: the residues modulo a prime form a field: a ring in which every one but 0 has an inverse. Its power p - 1
// is 1.
func TestFieldLaw(t *testing.T) {
	for _, p := range primes() {
		list := samples(p)
		for i, a := range list {
			for _, b := range list {
				wantRing(t, a, b, list[i*7%len(list)], p)
			}
			inverse, ok := mods.Inv(a, p)
			if ok != (a != 0) || ok && mods.Mul(a, inverse, p) != 1 {
				t.Fatalf("Inv(%d, %d): %d, %t", a, p, inverse, ok)
			}
			if power := mods.Pow(a, uint64(p-1), p); a != 0 && power != 1 {
				t.Fatalf("Pow(%d, %d, %d): %d", a, p-1, p, power)
			}
		}
	}
}

// P6.5: every nonzero residue modulo each small prime, and no other modulus, has an inverse.
func TestInversesLaw(t *testing.T) {
	for p := uint32(2); p < 400; p++ {
		all := true
		for a := uint32(1); a < p; a++ {
			_, ok := mods.Inv(a, p)
			all = all && ok
			if power := mods.Pow(a, uint64(p-1), p); mods.Prime(p) && power != 1 {
				t.Fatalf("Pow(%d, %d, %d): %d", a, p-1, p, power)
			}
		}
		if all != mods.Prime(p) {
			t.Fatalf("all residues modulo %d have an inverse: %t", p, all)
		}
	}
}

// P6.5: OfInt preserves sums and products, modulo any number.
func TestOfIntLaw(t *testing.T) {
	list := integers()
	for i, m := range list {
		for _, n := range []*big.Int{m, list[i*7%len(list)], list[i*31%len(list)], list[len(list)-1-i]} {
			sum, product := new(big.Int).Add(m, n), new(big.Int).Mul(m, n)
			for _, p := range append(numbers(), primes()...) {
				a, b := mods.OfInt(integer(m), p), mods.OfInt(integer(n), p)
				if mods.OfInt(integer(sum), p) != mods.Add(a, b, p) || mods.OfInt(integer(product), p) != mods.Mul(a, b, p) {
					t.Fatalf("the sum or the product of %s and %s modulo %d", m, n, p)
				}
			}
		}
	}
}

// P6.5: OfFrac preserves sums and products of fractions whose denominators have inverses, modulo any number.
func TestOfFracLaw(t *testing.T) {
	list := fractions()
	seen := 0
	for i, q := range list {
		r := list[(i*17+5)%len(list)]
		sum, product := frac(new(big.Rat).Add(q, r)), frac(new(big.Rat).Mul(q, r))
		for _, p := range append(numbers(), primes()...) {
			a, okA := mods.OfFrac(frac(q), p)
			b, okB := mods.OfFrac(frac(r), p)
			if !okA || !okB {
				continue
			}
			seen++
			if v, ok := mods.OfFrac(sum, p); v != mods.Add(a, b, p) || !ok {
				t.Fatalf("the sum of %s and %s modulo %d: %d, %t", q, r, p, v, ok)
			}
			if v, ok := mods.OfFrac(product, p); v != mods.Mul(a, b, p) || !ok {
				t.Fatalf("the product of %s and %s modulo %d: %d, %t", q, r, p, v, ok)
			}
		}
	}
	if seen < len(list) {
		t.Errorf("only %d sums and products", seen)
	}
}

// P6.5: Next is a prime, and no other lies between.
func TestGapLaw(t *testing.T) {
	list := divisors()
	s := &series{2033}
	for range 60 {
		n := uint32(s.next()>>33) / 2
		q, e := mods.Next(n)
		if e != api.OK || q <= n || q >= mods.Top || !undivided(q, list) {
			t.Fatalf("Next(%d): %d, error %d", n, q, e)
		}
		for between := n + 1; between < q; between++ {
			if undivided(between, list) || mods.Prime(between) {
				t.Fatalf("Next(%d): %d, but %d is a prime", n, q, between)
			}
		}
	}
}

// P6.5: Next, again and again from 0, leaves out none of the primes.
func TestChainLaw(t *testing.T) {
	n := uint32(0)
	for _, q := range divisors() {
		next, e := mods.Next(n)
		if next != q || e != api.OK {
			t.Fatalf("Next(%d): %d, error %d; want %d", n, next, e, q)
		}
		n = next
	}
}

// P1: the same call gives the same result again.
func TestSameAgain(t *testing.T) {
	if first, second := everything(), everything(); !slices.Equal(first, second) {
		t.Error("a second run gives other results")
	}
}

// everything returns the results of all functions for some arguments.
func everything() []uint32 {
	var out []uint32
	take := func(n uint32, ok bool) {
		out = append(out, n)
		if ok {
			out = append(out, 1)
		}
	}
	for i, p := range numbers() {
		next, e := mods.Next(p)
		take(next, e == api.OK)
		take(0, mods.Prime(p))
		take(mods.OfInt(integer(integers()[i]), p), true)
		take(mods.OfFrac(frac(fractions()[i]), p))
		for _, a := range numbers() {
			take(mods.Inv(a, p))
			out = append(out, mods.Add(a, p, a), mods.Sub(a, p, a), mods.Mul(a, p, p/2), mods.Pow(a, uint64(p)<<31, p))
		}
	}
	return out
}
