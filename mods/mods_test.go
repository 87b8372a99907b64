package mods_test

import (
	"math/big"
	"testing"

	"gusset/api"
	"gusset/fracs"
	"gusset/ints"
	"gusset/mods"
)

// wantNumber fails unless got is want.
func wantNumber(t *testing.T, what string, a, b, p, got, want uint32) {
	t.Helper()
	if got != want {
		t.Fatalf("%s(%d, %d, %d): %d; want %d", what, a, b, p, got, want)
	}
}

// wantMaybe fails unless a function returned the number that it had to, or that there is none.
func wantMaybe(t *testing.T, what string, got uint32, ok bool, want uint32, exists bool) {
	t.Helper()
	if got != want || ok != exists {
		t.Fatalf("%.80s: %d, %t; want %d, %t", what, got, ok, want, exists)
	}
}

// wantSums fails unless the sum, the difference and the product are right.
func wantSums(t *testing.T, a, b, p uint32) {
	t.Helper()
	wantNumber(t, "Add", a, b, p, mods.Add(a, b, p), residue(new(big.Int).Add(whole(a), whole(b)), p))
	wantNumber(t, "Sub", a, b, p, mods.Sub(a, b, p), residue(new(big.Int).Sub(whole(a), whole(b)), p))
	wantNumber(t, "Mul", a, b, p, mods.Mul(a, b, p), residue(new(big.Int).Mul(whole(a), whole(b)), p))
}

// P6.2: the definitions of Add, Sub and Mul, for all small numbers, and for those of all lengths. They need not be
// residues, and 0 is a modulus, too.
func TestSums(t *testing.T) {
	for p := range uint32(14) {
		for a := range uint32(30) {
			for b := range uint32(30) {
				wantSums(t, a, b, p)
			}
		}
	}
	for _, p := range numbers() {
		for _, a := range numbers() {
			for _, b := range numbers() {
				wantSums(t, a, b, p)
			}
		}
	}
}

// P6.2: Pow multiplies 1 by the number again and again.
func TestPowOfSmallNumbers(t *testing.T) {
	for p := range uint32(24) {
		for a := range uint32(50) {
			want := residue(whole(1), p)
			for n := range uint64(70) {
				wantNumber(t, "Pow", a, uint32(n), p, mods.Pow(a, n, p), want)
				want = residue(new(big.Int).Mul(whole(want), whole(a)), p)
			}
		}
	}
}

// P6.2: powers of all lengths, up to the greatest.
func TestPowOfGreatNumbers(t *testing.T) {
	powers := []uint64{0, 1, 2, 3, 31, 32, 33, 63, 64, 1<<32 - 1, 1 << 32, 1<<32 + 1, 1<<63 - 1, 1 << 63, 1<<63 + 1, 1<<64 - 2, 1<<64 - 1}
	s := &series{2032}
	for i := range 8 {
		powers = append(powers, s.next()>>(8*i))
	}
	for _, p := range numbers() {
		for _, a := range numbers() {
			for _, n := range powers {
				want := uint32(0)
				if p > 0 { // math/big takes 0 for no modulus at all
					want = residue(new(big.Int).Exp(whole(a), new(big.Int).SetUint64(n), whole(p)), p)
				}
				if v := mods.Pow(a, n, p); v != want {
					t.Fatalf("Pow(%d, %d, %d): %d; want %d", a, n, p, v, want)
				}
			}
		}
	}
}

// P6.3: the definition, for all small numbers: the residue whose product with a is 1, if there is one.
func TestInvOfSmallNumbers(t *testing.T) {
	for p := range uint32(120) {
		for a := range uint32(260) {
			want, exists := uint32(0), false
			for x := range p {
				if a*x%p == 1%p {
					want, exists = x, true
					break
				}
			}
			v, ok := mods.Inv(a, p)
			if v != want || ok != exists {
				t.Fatalf("Inv(%d, %d): %d, %t; want %d, %t", a, p, v, ok, want, exists)
			}
		}
	}
}

// P6.3: numbers of all lengths have an inverse exactly if no divisor greater than 1 is common to both.
func TestInvOfGreatNumbers(t *testing.T) {
	for _, p := range append(numbers(), primes()...) {
		for _, a := range append(numbers(), 3*5*7*11*13*17*19*23, 1<<30, 65521*65521) {
			v, ok := mods.Inv(a, p)
			product := new(big.Int).Mul(whole(a), whole(v))
			switch {
			case ok != (p != 0 && coprime(whole(a), p)):
				t.Fatalf("Inv(%d, %d): %t", a, p, ok)
			case !ok && v != 0:
				t.Fatalf("Inv(%d, %d): there is none, but %d", a, p, v)
			case ok && (v >= p || residue(product, p) != residue(whole(1), p)):
				t.Fatalf("Inv(%d, %d): %d", a, p, v)
			}
		}
	}
}

// P6.4: the residues of integers of both signs and of all lengths.
func TestOfInt(t *testing.T) {
	for _, n := range integers() {
		for _, p := range append(numbers(), primes()...) {
			if v := mods.OfInt(integer(n), p); v != residue(n, p) {
				t.Fatalf("OfInt(%s, %d): %d; want %d", n, p, v, residue(n, p))
			}
		}
	}
	for _, p := range numbers() {
		if v := mods.OfInt(ints.Int{}, p); v != 0 {
			t.Errorf("OfInt of the zero value, %d: %d", p, v)
		}
	}
}

// P6.4: the residue of a fraction, times the denominator, is that of the numerator. There is one exactly if the
// denominator has an inverse.
func TestOfFrac(t *testing.T) {
	for _, r := range fractions() {
		for _, p := range append(numbers(), primes()...) {
			v, ok := mods.OfFrac(frac(r), p)
			product := new(big.Int).Mul(r.Denom(), whole(v))
			switch {
			case ok != (p != 0 && coprime(r.Denom(), p)):
				t.Fatalf("OfFrac(%s, %d): %t", r, p, ok)
			case !ok && v != 0:
				t.Fatalf("OfFrac(%s, %d): there is none, but %d", r, p, v)
			case ok && (v >= p || residue(product, p) != residue(r.Num(), p)):
				t.Fatalf("OfFrac(%s, %d): %d", r, p, v)
			}
		}
	}
}

// P6.2 to P6.4: the chapter's examples.
func TestExamples(t *testing.T) {
	wantNumber(t, "Sub", 3, 5, 7, mods.Sub(3, 5, 7), 5)
	wantNumber(t, "Mul", greatest, greatest, topPrime, mods.Mul(greatest, greatest, topPrime), 16)
	wantNumber(t, "Pow", 2, 10, 1000, mods.Pow(2, 10, 1000), 24)
	wantNumber(t, "Pow", 0, 0, 5, mods.Pow(0, 0, 5), 1)
	wantNumber(t, "Add", 3, 4, 0, mods.Add(3, 4, 0), 0)
	if v := mods.OfInt(ints.Of(-1), 7); v != 6 {
		t.Errorf("OfInt(-1, 7): %d", v)
	}
	for _, x := range []struct {
		a, p, want uint32
		ok         bool
	}{{3, 7, 5, true}, {2, 4, 0, false}, {0, 1, 0, true}, {5, 0, 0, false}, {0, 0, 0, false}, {1, 0, 0, false}, {greatest, 1, 0, true}, {0, 7, 0, false}, {14, 7, 0, false}} {
		v, ok := mods.Inv(x.a, x.p)
		wantMaybe(t, "Inv", v, ok, x.want, x.ok)
	}
	for _, x := range []struct {
		a    string
		p    uint32
		want uint32
		ok   bool
	}{
		{"1/2", 7, 4, true}, {"1/7", 7, 0, false}, {"7/2", 7, 0, true}, {"-1/2", 7, 3, true}, {"2/14", 7, 0, false}, {"7/14", 7, 4, true},
		{"1/3", 1, 0, true}, {"5", 1, 0, true}, {"1/3", 0, 0, false}, {"5", 0, 0, false}, {"0", 0, 0, false}, {"0", 7, 0, true}, {"5/6", 4, 0, false}, {"5/3", 4, 3, true},
		{"1/4294967291", topPrime, 0, false}, {"1/4294967292", topPrime, 1, true}, {"-4294967292/4294967293", topPrime, 2147483645, true},
	} {
		v, ok := mods.OfFrac(read(x.a), x.p)
		wantMaybe(t, "OfFrac of "+x.a, v, ok, x.want, x.ok)
	}
}

// P6.4: numbers have no limit, so those that no text can hold have residues, too.
func TestOfGreatNumbers(t *testing.T) {
	power, e := fracs.Pow(fracs.Int(10), api.MaxDigits)
	if e != api.OK {
		t.Fatal("no power of ten")
	}
	great := fracs.Square(fracs.Square(power))
	small, _ := fracs.Div(fracs.Int(-1), great)
	for _, p := range append(numbers(), primes()...) {
		want := mods.Pow(10, 4*api.MaxDigits, p)
		if v := mods.OfInt(fracs.Num(great), p); v != want {
			t.Errorf("OfInt(10^16384, %d): %d; want %d", p, v, want)
		}
		v, ok := mods.OfFrac(small, p)
		inverse, exists := mods.Inv(want, p)
		if ok != exists || v != mods.Sub(0, inverse, p) {
			t.Errorf("OfFrac(-10^-16384, %d): %d, %t", p, v, ok)
		}
	}
}
