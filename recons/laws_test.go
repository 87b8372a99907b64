package recons_test

import (
	"math/big"
	"slices"
	"testing"

	"gusset/api"
	"gusset/fracs"
	"gusset/ints"
	"gusset/mods"
	"gusset/nats"
	"gusset/recons"
)

// fractions returns fractions of both signs: small ones, and longer ones.
func fractions() []*big.Rat {
	list := []*big.Rat{}
	for n := int64(-9); n <= 9; n++ {
		for d := int64(1); d <= 9; d++ {
			list = append(list, big.NewRat(n, d))
		}
	}
	s := &series{2040}
	for i := range 40 {
		list = append(list, new(big.Rat).SetFrac(s.integer(1+i%4), s.size(1+i%3)))
	}
	return list
}

// P7.3: a fraction that is small for m, and whose denominator has no common divisor with m, comes back.
func TestBackLaw(t *testing.T) {
	seen := 0
	for _, r := range fractions() {
		for _, m := range great() {
			if !far(r, m) || !coprime(r.Denom(), m) {
				continue
			}
			seen++
			wantBack(t, residueOf(r, m), m, r)
			wantBack(t, minus(residueOf(r, m), times(m, r.Denom())), m, r)
		}
	}
	if seen < 2000 {
		t.Errorf("only %d fractions", seen)
	}
}

// P7.3: a fraction comes back from its residues modulo several primes as soon as their product is great enough.
func TestPrimesLaw(t *testing.T) {
	for _, r := range fractions() {
		product, p := whole(1), uint32(1<<30)
		var l []recons.Rest
		for !far(r, product) {
			next, e := mods.Next(p)
			a, ok := mods.OfFrac(frac(r), next)
			if e != api.OK || !ok {
				t.Fatalf("%s has no residue modulo %d", r, next)
			}
			p = next
			product = times(product, whole(int64(p)))
			l = append(l, small(int64(a), int64(p)))
		}
		all, e := recons.Chinese(l...)
		if all.M != natural(product) || e != api.OK {
			t.Fatalf("the residues of %s: modulo %s, error %d", r, nats.Text(all.M), e)
		}
		if f, ok := recons.Back(all.R, all.M); f != frac(r) || !ok {
			t.Fatalf("%s comes back as %s, %t", r, fracs.Text(f), ok)
		}
	}
}

// oneByOne returns what comes from combining each congruence of l with those before it.
func oneByOne(l []recons.Rest) (recons.Rest, api.Errno) {
	all, e := recons.Chinese()
	for _, x := range l {
		if e == api.OK {
			all, e = recons.Chinese(all, x)
		}
	}
	return all, e
}

// halves returns what comes from combining each half of l by itself.
func halves(l []recons.Rest) (recons.Rest, api.Errno) {
	low, e := recons.Chinese(l[:len(l)/2]...)
	if e != api.OK {
		return low, e
	}
	high, e := recons.Chinese(l[len(l)/2:]...)
	if e != api.OK {
		return high, e
	}
	return recons.Chinese(low, high)
}

// P7.3: congruences may be combined in any order, or one by one.
func TestOrderLaw(t *testing.T) {
	s := &series{2041}
	found, none := 0, 0
	for i := range 400 {
		x := s.integer(4)
		var l []recons.Rest
		for range 1 + i%7 {
			m := times(whole(int64(1+s.below(12))), s.size(1))
			l = append(l, rest(plus(x, times(m, s.integer(1))), m))
		}
		if i%2 == 1 {
			l[0].R = ints.Add(l[0].R, ints.Of(int64(s.below(3))))
		}
		want, code := recons.Chinese(l...)
		if code == api.OK {
			found++
		} else {
			none++
		}
		got, e := oneByOne(l)
		wantRest(t, got, e, want, code)
		got, e = halves(l)
		wantRest(t, got, e, want, code)
		for range 4 {
			at := s.below(len(l))
			l[0], l[at] = l[at], l[0]
			slices.Reverse(l)
			got, e = recons.Chinese(l...)
			wantRest(t, got, e, want, code)
		}
	}
	if found < 50 || none < 50 {
		t.Errorf("%d lists have a solution, and %d have none", found, none)
	}
}

// P1: the same call gives the same result again.
func TestSameAgain(t *testing.T) {
	first, firstRests := everything()
	second, secondRests := everything()
	if !slices.Equal(first, second) || !slices.Equal(firstRests, secondRests) {
		t.Error("a second run gives other results")
	}
}

// everything returns the results of all functions for some arguments.
func everything() ([]fracs.Frac, []recons.Rest) {
	var out []fracs.Frac
	var rests []recons.Rest
	take := func(ok bool) {
		if ok {
			out = append(out, fracs.Int(1))
		}
	}
	for i, m := range great() {
		a := ints.Of(int64(i) * 1_000_003)
		f, ok := recons.Back(a, natural(m))
		out = append(out, f)
		take(ok)
		take(recons.Fits(f, a, natural(m)))
		take(recons.Far(frac(fractions()[i]), natural(m)))
		both, e := recons.Chinese(small(int64(i), 12), rest(whole(5), m))
		rests = append(rests, both)
		take(e == api.OK)
	}
	return out, rests
}
