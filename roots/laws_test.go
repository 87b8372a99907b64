package roots_test

import (
	"slices"
	"testing"

	"gusset/api"
	"gusset/fracs"
	"gusset/roots"
)

// bounds returns Below and Above of a.
func bounds(t *testing.T, a fracs.Frac, places int) (low, high fracs.Frac) {
	t.Helper()
	low, e := roots.Below(a, places)
	if e != api.OK {
		t.Fatalf("Below(%s, %d): error %d", fracs.Text(a), places, e)
	}
	high, e = roots.Above(a, places)
	if e != api.OK {
		t.Fatalf("Above(%s, %d): error %d", fracs.Text(a), places, e)
	}
	return low, high
}

// P5.4: the squares of Below and Above lie on either side of a, and those of their neighbours do not.
func TestSquaresLaw(t *testing.T) {
	for _, r := range samples() {
		for _, places := range []int{0, 1, 5, 50, api.MaxPlaces} {
			a, step := frac(r), frac(power(2, -places))
			low, high := bounds(t, a, places)
			if fracs.Cmp(fracs.Square(low), a) > 0 || fracs.Cmp(fracs.Square(fracs.Add(low, step)), a) <= 0 {
				t.Fatalf("Below(%s, %d): %s", r, places, fracs.Text(low))
			}
			if fracs.Cmp(fracs.Square(high), a) < 0 {
				t.Fatalf("Above(%s, %d): %s is too little", r, places, fracs.Text(high))
			}
			if high != fracs.Int(0) && fracs.Cmp(fracs.Square(fracs.Sub(high, step)), a) >= 0 {
				t.Fatalf("Above(%s, %d): %s is too much", r, places, fracs.Text(high))
			}
		}
	}
}

// P5.4: Below and Above are equal if the root is a multiple of 2^-places, and only then.
func TestGapLaw(t *testing.T) {
	for _, r := range samples() {
		for _, places := range []int{0, 1, 2, 3, 35, 99, api.MaxPlaces} {
			low, high := bounds(t, frac(r), places)
			gap := frac(power(2, -places))
			root, ok := roots.Exact(frac(r))
			if ok && fracs.Whole(fracs.Mul(root, frac(power(2, places)))) {
				gap = fracs.Int(0)
				if low != root {
					t.Fatalf("Below(%s, %d): %s is not the root", r, places, fracs.Text(low))
				}
			}
			if fracs.Sub(high, low) != gap {
				t.Fatalf("the root of %s, to %d places: from %s to %s", r, places, fracs.Text(low), fracs.Text(high))
			}
		}
	}
}

// P5.4: with more places Below does not decrease, and Above does not increase.
func TestPlacesLaw(t *testing.T) {
	for _, r := range samples()[:80] {
		low, high := bounds(t, frac(r), 0)
		for places := 1; places <= api.MaxPlaces; places++ {
			nextLow, nextHigh := bounds(t, frac(r), places)
			if fracs.Cmp(nextLow, low) < 0 || fracs.Cmp(nextHigh, high) > 0 {
				t.Fatalf("the root of %s has wider bounds to %d places than to one fewer", r, places)
			}
			low, high = nextLow, nextHigh
		}
	}
}

// P5.4: for a greater number neither Below nor Above decreases.
func TestGreaterLaw(t *testing.T) {
	var list []fracs.Frac
	for _, r := range samples() {
		list = append(list, frac(r))
	}
	slices.SortFunc(list, fracs.Cmp)
	for _, places := range []int{0, 1, 4, 60, api.MaxPlaces} {
		low, high := bounds(t, list[0], places)
		for _, a := range list[1:] {
			nextLow, nextHigh := bounds(t, a, places)
			if fracs.Cmp(nextLow, low) < 0 || fracs.Cmp(nextHigh, high) < 0 {
				t.Fatalf("a number less than %s has greater bounds to %d places", fracs.Text(a), places)
			}
			low, high = nextLow, nextHigh
		}
	}
}

// P5.4: the sum of two roots is at least the root of the sum, and greater than it if both numbers are greater than 0.
func TestSumLaw(t *testing.T) {
	list := samples()
	for i, r := range list {
		for step := range 5 {
			a, b := frac(r), frac(list[(i*(step+3)+step)%len(list)])
			want := min(fracs.Sign(a), fracs.Sign(b))
			if c, e := roots.Order(a, b, a, b); c != want || e != api.OK {
				t.Fatalf("Order(%s, %s, of their sum): %d, error %d", fracs.Text(a), fracs.Text(b), c, e)
			}
		}
	}
}

// R1 and P1: the same call gives the same result again.
func TestSameAgain(t *testing.T) {
	if first, second := everything(t), everything(t); !slices.Equal(first, second) {
		t.Error("a second run gives other results")
	}
}

// everything returns the results of all functions for the samples.
func everything(t *testing.T) []fracs.Frac {
	t.Helper()
	var out []fracs.Frac
	for i, r := range samples() {
		a := frac(r)
		low, high := bounds(t, a, i%(api.MaxPlaces+1))
		root, _ := roots.Exact(a)
		c, _ := roots.Order(a, low, high, root)
		out = append(out, low, high, root, fracs.Int(int64(c)))
	}
	return out
}
