package fracs_test

import (
	"math/big"
	"slices"
	"testing"

	"gusset/fracs"
)

// P3.2: Neg, Abs and Sign.
func TestSigns(t *testing.T) {
	for _, r := range edges() {
		a := frac(r)
		want(t, "Neg", fracs.Neg(a), negative(r))
		want(t, "Abs", fracs.Abs(a), new(big.Rat).Abs(r))
		if got := fracs.Sign(a); got != r.Sign() {
			t.Errorf("Sign(%s): %d", r, got)
		}
	}
	var zero fracs.Frac
	if fracs.Neg(zero) != zero || fracs.Abs(zero) != zero || fracs.Sign(zero) != 0 {
		t.Error("0 has a sign")
	}
}

// P3.2: Cmp.
func TestCmp(t *testing.T) {
	for _, p := range pairs() {
		if got := fracs.Cmp(frac(p[0]), frac(p[1])); got != p[0].Cmp(p[1]) {
			t.Fatalf("Cmp(%s, %s): %d", p[0], p[1], got)
		}
	}
}

// P3.2: Cmp of neighbours, which differ by as little as their denominators allow.
func TestCmpOfNeighbours(t *testing.T) {
	s := &series{31}
	for i := range 200 {
		n := s.size(1 + i%5)
		next := new(big.Int).Add(n, big.NewInt(1))
		afterNext := new(big.Int).Add(n, big.NewInt(2))
		low, high := frac(over(n, next)), frac(over(next, afterNext))
		if fracs.Cmp(low, high) != -1 || fracs.Cmp(high, low) != 1 || fracs.Cmp(low, low) != 0 {
			t.Fatalf("%s is not less than %s", fracs.Text(low), fracs.Text(high))
		}
		if fracs.Cmp(fracs.Neg(low), fracs.Neg(high)) != 1 || fracs.Cmp(fracs.Neg(high), low) != -1 {
			t.Fatalf("the negatives of %s and %s are in the wrong order", fracs.Text(low), fracs.Text(high))
		}
	}
}

// P3.2: Max and Min of no arguments.
func TestChoiceOfNone(t *testing.T) {
	var zero fracs.Frac
	for _, l := range [][]fracs.Frac{nil, {}} {
		if fracs.Max(l...) != zero || fracs.Min(l...) != zero {
			t.Error("Max or Min of nothing is not 0")
		}
	}
	if fracs.Max() != zero || fracs.Min() != zero {
		t.Error("Max() or Min() is not 0")
	}
}

// P3.2: Max and Min, where 0 is no argument: all of them are on one side of it, or there is one only.
func TestChoiceBesideZero(t *testing.T) {
	low, middle, high := read(t, "1/3"), read(t, "1/2"), read(t, "2/3")
	if fracs.Min(middle, low, high) != low || fracs.Max(middle, high, low) != high {
		t.Error("of positive numbers")
	}
	low, middle, high = fracs.Neg(high), fracs.Neg(middle), fracs.Neg(low)
	if fracs.Min(middle, low, high) != low || fracs.Max(middle, high, low) != high {
		t.Error("of negative numbers")
	}
	for _, r := range edges() {
		if a := frac(r); fracs.Max(a) != a || fracs.Min(a) != a || fracs.Max(a, a, a) != a || fracs.Min(a, a, a) != a {
			t.Errorf("of %s alone", r)
		}
	}
}

// P3.2: Max and Min of two numbers.
func TestChoiceOfTwo(t *testing.T) {
	for _, p := range pairs() {
		low, high := p[0], p[1]
		if low.Cmp(high) > 0 {
			low, high = high, low
		}
		a, b := frac(p[0]), frac(p[1])
		if fracs.Max(a, b) != frac(high) || fracs.Min(a, b) != frac(low) {
			t.Fatalf("%s and %s: from %s to %s", p[0], p[1], fracs.Text(fracs.Min(a, b)), fracs.Text(fracs.Max(a, b)))
		}
	}
}

// P3.2: Max and Min of several numbers, wherever among the arguments they stand.
func TestChoiceOfMany(t *testing.T) {
	var list []fracs.Frac
	for _, r := range edges() {
		list = append(list, frac(r))
	}
	sorted := slices.SortedFunc(slices.Values(list), fracs.Cmp)
	low, high := sorted[0], sorted[len(sorted)-1]
	for i := range list {
		turned := slices.Concat(list[i:], list[:i])
		if fracs.Min(turned...) != low || fracs.Max(turned...) != high {
			t.Fatalf("beginning at %s: from %s to %s", fracs.Text(list[i]), fracs.Text(fracs.Min(turned...)), fracs.Text(fracs.Max(turned...)))
		}
	}
	if fracs.Min(sorted...) != low || fracs.Max(sorted...) != high {
		t.Error("of sorted numbers")
	}
	for i := range sorted {
		if fracs.Max(sorted[:i+1]...) != sorted[i] || fracs.Min(sorted[i:]...) != sorted[i] {
			t.Errorf("of the numbers at one side of %s", fracs.Text(sorted[i]))
		}
	}
}
