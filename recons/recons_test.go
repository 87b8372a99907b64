package recons_test

import (
	"math/big"
	"testing"

	"gusset/api"
	"gusset/fracs"
	"gusset/ints"
	"gusset/nats"
	"gusset/recons"
)

// wantBack fails unless Back returns want, or that there is none if want is nil.
func wantBack(t *testing.T, a, m *big.Int, want *big.Rat) {
	t.Helper()
	f, ok := recons.Back(integer(a), natural(m))
	exists := want != nil
	if !exists {
		want = new(big.Rat)
	}
	if f != frac(want) || ok != exists {
		t.Fatalf("Back(%s, %s): %s, %t; want %s, %t", a, m, fracs.Text(f), ok, want, exists)
	}
}

// answers returns the fraction that is small for m, for each residue modulo m that has one. It fails if one has two.
func answers(t *testing.T, m int64) map[int64]*big.Rat {
	t.Helper()
	out := map[int64]*big.Rat{}
	for d := int64(1); 2*d*d < m; d++ {
		for n := int64(0); 2*n*n < m; n++ {
			if !coprime(whole(n), whole(d)) || !coprime(whole(d), whole(m)) {
				continue
			}
			for _, r := range []*big.Rat{big.NewRat(n, d), big.NewRat(-n, d)} {
				a := residueOf(r, whole(m)).Int64()
				if other, ok := out[a]; ok && other.Cmp(r) != 0 {
					t.Fatalf("%s and %s are congruent to %d modulo %d, and small", r, other, a, m)
				}
				out[a] = r
			}
		}
	}
	return out
}

// P7.1: Back of all numbers modulo all small ones. They need not be residues.
func TestBackOfSmallNumbers(t *testing.T) {
	for m := int64(1); m <= 140; m++ {
		want := answers(t, m)
		for a := -2 * m; a <= 2*m; a++ {
			wantBack(t, whole(a), whole(m), want[(a+2*m)%m])
		}
	}
}

// P7.1: Back of all residues modulo a prime, a product, powers, and what lies at twice a square.
func TestBackOfAllResidues(t *testing.T) {
	for _, m := range []int64{10007, 2 * 3 * 5 * 7 * 11, 4096, 8192, 6561, 2 * 50 * 50, 2*50*50 + 1, 2*50*50 - 1, 2 * 49 * 49, 2*49*49 + 1, 101 * 97} {
		want := answers(t, m)
		for a := range m {
			wantBack(t, whole(a), whole(m), want[a])
		}
	}
}

// shortest returns n/d for the shortest n, d with n - a d divisible by m (Gauss), if it is small and congruent to a.
//
// The length of a small pair is less than the root of m, and any pair beside its multiples is longer than that.
func shortest(a, m *big.Int) *big.Rat {
	type pair struct{ n, d *big.Int }
	dot := func(p, q pair) *big.Int { return plus(times(p.n, q.n), times(p.d, q.d)) }
	p, q := pair{m, whole(0)}, pair{remainder(a, m), whole(1)}
	for {
		if dot(p, p).Cmp(dot(q, q)) < 0 {
			p, q = q, p
		}
		// The nearest integer to the quotient is the multiple of q that makes p shortest.
		doubled := plus(times(whole(2), dot(p, q)), dot(q, q))
		k := new(big.Int).Div(doubled, times(whole(2), dot(q, q)))
		next := pair{minus(p.n, times(k, q.n)), minus(p.d, times(k, q.d))}
		if dot(next, next).Cmp(dot(q, q)) >= 0 {
			break
		}
		p = next
	}
	if q.d.Sign() == 0 {
		return nil
	}
	if r := new(big.Rat).SetFrac(q.n, q.d); far(r, m) && fits(r, a, m) {
		return r
	}
	return nil
}

// P7.1: Back of great numbers modulo great ones, some of which have a fraction and some none.
func TestBackOfGreatNumbers(t *testing.T) {
	s := &series{2035}
	found, none := 0, 0
	for _, m := range great() {
		for i := range 30 {
			a := s.integer(1 + i%6)
			if i%3 == 0 { // which have a fraction more often
				a = remainder(times(a, plus(m, whole(1))), m)
			}
			want := shortest(a, m)
			wantBack(t, a, m, want)
			if want == nil {
				none++
			} else {
				found++
			}
		}
	}
	if found < 100 || none < 100 {
		t.Errorf("%d have a fraction, and %d have none", found, none)
	}
}

// P7.1: fractions whose parts are the greatest that are small for m, and just greater.
func TestBackAtTheLimit(t *testing.T) {
	for _, m := range great() {
		most := new(big.Int).Sqrt(new(big.Int).Rsh(minus(m, whole(1)), 1))
		for i := range int64(4) {
			for j := range int64(4) {
				n, d := plus(most, whole(i-2)), plus(most, whole(j-2))
				if d.Sign() <= 0 || !coprime(d, m) {
					continue
				}
				for _, r := range []*big.Rat{new(big.Rat).SetFrac(n, d), new(big.Rat).SetFrac(new(big.Int).Neg(n), d)} {
					a := residueOf(r, m)
					if far(r, m) {
						wantBack(t, a, m, r)
					} else {
						wantBack(t, a, m, shortest(a, m))
					}
				}
			}
		}
	}
}

// P7.1: there is no fraction modulo 0, 1 or 2, as no denominator is small.
func TestBackOfLeastModuli(t *testing.T) {
	for m := range int64(3) {
		for _, a := range []*big.Int{whole(0), whole(1), whole(-1), whole(2), whole(100), minus(whole(0), new(big.Int).Lsh(whole(1), 100))} {
			wantBack(t, a, whole(m), nil)
		}
	}
}

// P7.1: Fits of all small numbers.
func TestFitsOfSmallNumbers(t *testing.T) {
	for n := int64(-10); n <= 10; n++ {
		for d := int64(1); d <= 10; d++ {
			r := big.NewRat(n, d)
			for m := range int64(25) {
				for a := int64(-26); a <= 26; a++ {
					got := recons.Fits(frac(r), ints.Of(a), nats.Of(uint64(m)))
					if got != fits(r, whole(a), whole(m)) {
						t.Fatalf("Fits(%s, %d, %d): %t", r, a, m, got)
					}
				}
			}
		}
	}
}

// P7.1: Fits of great numbers: a residue and what differs from it by multiples of the modulus, and no other.
func TestFitsOfGreatNumbers(t *testing.T) {
	s := &series{2036}
	for _, m := range great() {
		for i := range 10 {
			r := new(big.Rat).SetFrac(s.integer(1+i%4), s.size(1+i%3))
			a := s.integer(2)
			if coprime(r.Denom(), m) {
				a = plus(residueOf(r, m), times(m, a))
			}
			for _, b := range []*big.Int{a, plus(a, whole(1)), minus(a, m)} {
				if got := recons.Fits(frac(r), integer(b), natural(m)); got != fits(r, b, m) {
					t.Fatalf("Fits(%s, %s, %s): %t", r, b, m, got)
				}
			}
		}
	}
}

// P7.1: Far of small numbers, and at twice the squares of great ones.
func TestFar(t *testing.T) {
	wantFar := func(r *big.Rat, m *big.Int) {
		t.Helper()
		if got := recons.Far(frac(r), natural(m)); got != far(r, m) {
			t.Fatalf("Far(%s, %s): %t", r, m, got)
		}
	}
	for n := int64(-8); n <= 8; n++ {
		for d := int64(1); d <= 8; d++ {
			for m := range int64(140) {
				wantFar(big.NewRat(n, d), whole(m))
			}
		}
	}
	s := &series{2037}
	for i := range 60 {
		n, d := s.integer(1+i%4), s.size(1+i%3)
		for _, r := range []*big.Rat{new(big.Rat).SetFrac(n, d), new(big.Rat).SetInt(n), new(big.Rat).SetFrac(whole(1), d)} {
			for _, part := range []*big.Int{r.Num(), r.Denom()} {
				m := times(whole(2), times(part, part))
				wantFar(r, m)
				wantFar(r, plus(m, whole(1)))
				wantFar(r, minus(m, whole(1)))
			}
		}
	}
}

// P7.1: the chapter's examples.
func TestExamples(t *testing.T) {
	for _, x := range []struct {
		a, m int64
		want string
		ok   bool
	}{
		{5, 9, "1/2", true}, {-4, 9, "1/2", true}, {3, 9, "0", false}, {0, 3, "0", true}, {0, 2, "0", false},
		{10, 101, "0", false}, {34, 101, "1/3", true}, {67, 101, "-1/3", true}, {20, 101, "-1/5", true},
	} {
		if f, ok := recons.Back(ints.Of(x.a), nats.Of(uint64(x.m))); fracs.Text(f) != x.want || ok != x.ok {
			t.Errorf("Back(%d, %d): %s, %t; want %s, %t", x.a, x.m, fracs.Text(f), ok, x.want, x.ok)
		}
	}
	for _, x := range []struct{ n, d, a, m int64 }{{1, 2, 5, 9}, {0, 1, 0, 1}, {0, 1, 5, 1}, {1, 2, 0, 1}, {-1, 2, 4, 9}, {7, 1, -2, 9}} {
		if !recons.Fits(frac(big.NewRat(x.n, x.d)), ints.Of(x.a), nats.Of(uint64(x.m))) {
			t.Errorf("not Fits(%d/%d, %d, %d)", x.n, x.d, x.a, x.m)
		}
	}
	for _, x := range []struct{ n, d, a, m int64 }{{1, 3, 0, 9}, {0, 1, 0, 0}, {1, 1, 1, 0}, {1, 2, 1, 2}, {1, 2, 4, 9}} {
		if recons.Fits(frac(big.NewRat(x.n, x.d)), ints.Of(x.a), nats.Of(uint64(x.m))) {
			t.Errorf("Fits(%d/%d, %d, %d)", x.n, x.d, x.a, x.m)
		}
	}
	for _, x := range []struct {
		n, d, m int64
		want    bool
	}{{2, 1, 9, true}, {2, 1, 8, false}, {-2, 1, 9, true}, {-2, 1, 8, false}, {1, 2, 9, true}, {1, 2, 8, false}, {0, 1, 3, true}, {0, 1, 2, false}, {0, 1, 1, false}, {0, 1, 0, false}} {
		if recons.Far(frac(big.NewRat(x.n, x.d)), nats.Of(uint64(x.m))) != x.want {
			t.Errorf("Far(%d/%d, %d): %t", x.n, x.d, x.m, !x.want)
		}
	}
}

// P7.1: numbers have no limit, so those that no text can hold may be moduli, and parts of fractions.
func TestBeyondTexts(t *testing.T) {
	ten := new(big.Int).Exp(whole(10), whole(api.MaxDigits+100), nil)
	r := new(big.Rat).SetFrac(minus(whole(7), ten), plus(ten, whole(3)))
	m := plus(times(whole(2), times(r.Denom(), r.Denom())), whole(1))
	if !coprime(r.Denom(), m) {
		t.Fatal("the denominator has no inverse")
	}
	a := residueOf(r, m)
	f, ok := recons.Back(integer(a), natural(m))
	if f != frac(r) || !ok || !recons.Fits(f, integer(a), natural(m)) || !recons.Far(f, natural(m)) {
		t.Error("a long fraction does not come back")
	}
	if recons.Far(f, natural(minus(m, whole(1)))) || recons.Fits(f, integer(plus(a, whole(1))), natural(m)) {
		t.Error("a long fraction fits or is small where it is not")
	}
}
